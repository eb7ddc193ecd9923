/-
  Csa.
-/
import Derived.Test.YthmjimmmkoeeoaaDoorM12
namespace Go.Proofs.YthmjimmmkoeeoaaDoor
set_option linter.unusedVariables false
open Go.ChangeShapes Go.WideShapes Go.ChangeAt Go.RowKit Go.Deep
theorem stB_alt (v : BitVec 64) : stB v = (if mq v then v &&& ~~~6144#64 else v) &&& 2234504#64 ||| 8589934592#64 := by
  unfold stB
  by_cases h : mq v
  · rw [if_pos ((mq_mask v).2 h), if_pos h, BitVec.and_assoc, BitVec.and_comm (2234504#64), ← BitVec.and_assoc]
  · rw [if_neg (fun q => h ((mq_mask v).1 q)), if_neg h]
set_option maxRecDepth 100000 in
theorem properStatus_c (v : BitVec 64) (w : World) : Calls Tryd.prog 44 #[.int .u64 (n64 v)] w fun e w' => e = .returned (.int .u64 (n64 (stB v))) ∧ w' = w := by
  have HN : Hid (∀ W, Calls Tryd.prog 62 #[.int .u64 (n64 v)] W fun e w' => e = .returned (.bool (nm v)) ∧ w' = W) := namesMode_c v
  rw [stB_alt]
  by_cases h : mq v
  · rw [if_pos h]
    rw [show nm v = false by simp [nm, h]] at HN
    have b0 : bits .andNot .u64 (n64 v) 6144 = n64 (v &&& ~~~6144#64) := n64_andNot v 6144#64
    have b1 : bits .and .u64 (n64 (v &&& ~~~6144#64)) 2234504 = n64 (v &&& ~~~6144#64 &&& 2234504#64) := n64_and _ 2234504#64
    have b2 : bits .or .u64 (n64 (v &&& ~~~6144#64 &&& 2234504#64)) 8589934592 = n64 (v &&& ~~~6144#64 &&& 2234504#64 ||| 8589934592#64) := n64_or _ 8589934592#64
    clear h
    generalize v &&& ~~~6144#64 &&& 2234504#64 ||| 8589934592#64 = r2 at b2 ⊢
    generalize v &&& ~~~6144#64 &&& 2234504#64 = r1 at b1 b2
    generalize v &&& ~~~6144#64 = r0 at b0 b1
    go_enter Tryd.func44, Tryd.ntmps44
    go_wp2_with (go_at_call 62; refine (HN.out _).mono ?_; rintro e w1 ⟨rfl, hw1⟩; subst hw1)
    go_ret
    exact ⟨rfl, rfl⟩
  · rw [if_neg h]
    rw [show nm v = true by simp [nm, h]] at HN
    have b1 : bits .and .u64 (n64 v) 2234504 = n64 (v &&& 2234504#64) := n64_and _ 2234504#64
    have b2 : bits .or .u64 (n64 (v &&& 2234504#64)) 8589934592 = n64 (v &&& 2234504#64 ||| 8589934592#64) := n64_or _ 8589934592#64
    clear h
    generalize v &&& 2234504#64 ||| 8589934592#64 = r2 at b2 ⊢
    generalize v &&& 2234504#64 = r1 at b1 b2
    go_enter Tryd.func44, Tryd.ntmps44
    go_wp2_with (go_at_call 62; refine (HN.out _).mono ?_; rintro e w1 ⟨rfl, hw1⟩; subst hw1)
    go_ret
    exact ⟨rfl, rfl⟩
/-- The cells of a reservation. -/
def rsc (v : Bool) (a : BitVec 64) (s : Int) : Array Value := #[.bool v, .int .u64 (n64 a), .int .i64 s]
set_option maxRecDepth 100000 in
set_option maxHeartbeats 1000000 in
theorem reserves_c (v : Bool) (a : BitVec 64) (s : Int) (w : World) : Calls Tryd.prog 46 #[.agg (rsc v a s)] w fun e w' => e = .returned (.bool (rok v a s)) ∧ Below w.heap.size w w' := by
  rw [rok_t]
  unfold rsc
  have hlo := n64_lo a
  cases v with
  | false =>
    go_enter Tryd.func46, Tryd.ntmps46
    go_wp2
    go_ret
    exact ⟨rfl, (Below.refl _ _).alloc (Nat.le_refl _) _⟩
  | true =>
    by_cases h4 : s = 4
    · subst h4
      have e : (true && ((4 : Int) == 4 && (n64 a).tmod 4 == 0 || (4 : Int) == 8 && (n64 a).tmod 8 == 0)) = ((n64 a).tmod 4 == 0) := by simp
      rw [e]
      clear e
      generalize n64 a = z at *
      go_enter Tryd.func46, Tryd.ntmps46
      go_wp2
      go_ret
      exact ⟨by rw [Int.tmod_eq_emod_of_nonneg hlo]; rfl, (Below.refl _ _).alloc (Nat.le_refl _) _⟩
    · by_cases h8 : s = 8
      · subst h8
        have e : (true && ((8 : Int) == 4 && (n64 a).tmod 4 == 0 || (8 : Int) == 8 && (n64 a).tmod 8 == 0)) = ((n64 a).tmod 8 == 0) := by simp
        rw [e]
        clear e h4
        generalize n64 a = z at *
        go_enter Tryd.func46, Tryd.ntmps46
        go_wp2
        go_ret
        exact ⟨by rw [Int.tmod_eq_emod_of_nonneg hlo]; rfl, (Below.refl _ _).alloc (Nat.le_refl _) _⟩
      · have f4 : (s == 4) = false := by simp [h4]
        have f8 : (s == 8) = false := by simp [h8]
        rw [show (true && (s == 4 && (n64 a).tmod 4 == 0 || s == 8 && (n64 a).tmod 8 == 0)) = false by simp [f4, f8]]
        clear h4 h8
        go_enter Tryd.func46, Tryd.ntmps46
        go_wp2
        go_ret
        exact ⟨rfl, (Below.refl _ _).alloc (Nat.le_refl _) _⟩
theorem Row.res {w : World} {g : Nat} {k : Cp} {t : TypeId} (h : Row w g (cpc k) t) : ∀ j v, (rsc k.rv k.ra k.rs)[j]? = some v → w.cell? ⟨g, 79 + j, none⟩ = some v := fun j v hv => by
  match j, hv with
  | 0, hv => rw [h.cls.rv]; simpa [rsc] using hv
  | 1, hv => rw [h.cls.ra]; simpa [rsc] using hv
  | 2, hv => rw [h.cls.rs]; simpa [rsc] using hv
  | j + 3, hv => simp [rsc] at hv
theorem info_res (v : Bool) (a : BitVec 64) (s : Int) : (Tryd.prog.info? 29).map (·.size) = some (rsc v a s).size := by kernel_rfl
theorem rsc_ones (v : Bool) (a : BitVec 64) (s : Int) : (rsc v a s).all (·.oneCell') = true := by simp [rsc, Value.oneCell']
set_option maxRecDepth 100000 in
set_option maxHeartbeats 2000000 in
theorem Pr_c (k : Cp) (w : World) : Calls Tryd.prog 24 #[.agg (cpc k)] w fun e w' => e = .returned (.agg (cpc (PR k))) ∧ Below w.heap.size w w' := by
  have hz := zero_cpu
  obtain ⟨W0, hW0, r0, r1, b0, s0⟩ := start2 w (cpc k) (cpc cz) 31 31
  have HS : Hid (W0.heap.size = w.heap.size + 2) := s0
  have K := r0.out.cls
  have f0 := r0.out.froz
  have B0 : bits .and .u64 (n64 k.pc) 18446744073709551614 = n64 (k.pc &&& ~~~1#64) := n64_and _ (~~~1#64)
  have B1 : bits .and .u64 (n64 (k.s 1)) 18446744073709551613 = n64 (k.s 1 &&& ~~~2#64) := n64_and _ (~~~2#64)
  have B2 : bits .and .u64 (n64 (k.s 2)) 2184 = n64 (k.s 2 &&& 2184#64) := n64_and _ 2184#64
  have B3 : bits .and .u64 (n64 (k.s 3)) 7 = n64 (k.s 3 &&& 7#64) := n64_and _ 7#64
  have B4 : bits .and .u64 (n64 (k.s 4)) 5 = n64 (k.s 4 &&& 5#64) := n64_and _ 5#64
  have B5 : bits .and .u64 (n64 (k.s 5)) 1 = n64 (k.s 5 &&& 1#64) := n64_and _ 1#64
  have B7 : bits .and .u64 (n64 (k.s 7)) 18446744073709551614 = n64 (k.s 7 &&& ~~~1#64) := n64_and _ (~~~1#64)
  have KS : Hid (∀ W, Calls Tryd.prog 44 #[.int .u64 (n64 (k.s 0))] W fun e w' => e = .returned (.int .u64 (n64 (stB (k.s 0)))) ∧ w' = W) := fun W => properStatus_c _ W
  have KP : Hid (∀ W, Calls Tryd.prog 45 #[.agg (pc k.c k.a)] W fun e w' => e = .returned (.agg (pc (PC k.c) (PA k.a))) ∧ Below W.heap.size W w') := fun W => Proper_c k.c k.a W
  obtain ⟨v0, hv0⟩ : ∃ v0, k.pc &&& ~~~1#64 = v0 := ⟨_, rfl⟩
  obtain ⟨v1, hv1⟩ : ∃ v1, k.s 1 &&& ~~~2#64 = v1 := ⟨_, rfl⟩
  obtain ⟨v2, hv2⟩ : ∃ v2, k.s 2 &&& 2184#64 = v2 := ⟨_, rfl⟩
  obtain ⟨v3, hv3⟩ : ∃ v3, k.s 3 &&& 7#64 = v3 := ⟨_, rfl⟩
  obtain ⟨v4, hv4⟩ : ∃ v4, k.s 4 &&& 5#64 = v4 := ⟨_, rfl⟩
  obtain ⟨v5, hv5⟩ : ∃ v5, k.s 5 &&& 1#64 = v5 := ⟨_, rfl⟩
  obtain ⟨v7, hv7⟩ : ∃ v7, k.s 7 &&& ~~~1#64 = v7 := ⟨_, rfl⟩
  obtain ⟨vs, hvs⟩ : ∃ vs, stB (k.s 0) = vs := ⟨_, rfl⟩
  rw [hv0] at B0; rw [hv1] at B1; rw [hv2] at B2; rw [hv3] at B3; rw [hv4] at B4; rw [hv5] at B5; rw [hv7] at B7; rw [hvs] at KS
  obtain ⟨K0, Kx, Km, Kw, K1, K2, K3, K4, K5, K6, K7, K8, K9, K10, K11, K12, Kv, Ka, Ks⟩ := K
  obtain ⟨m, hm⟩ : ∃ m : Int, m = if k.md = 3 then 3 else 0 := ⟨_, rfl⟩
  have HF : Hid (PR k = { pc := v0, x := upd k.x 0 0#64, md := m, wt := k.wt, s := prS k.s, c := PC k.c, a := PA k.a, rv := rok k.rv k.ra k.rs, ra := if rok k.rv k.ra k.rs then k.ra else 0#64, rs := if rok k.rv k.ra k.rs then k.rs else 0 }) := by
    rw [hm, ← hv0]; rfl
  have HV : Hid (∀ j, j < 12 → upd (upd (upd (upd (upd (upd (upd k.s 0 vs) 1 v1) 2 v2) 3 v3) 4 v4) 5 v5) 7 v7 j = prS k.s j) := fun j hj => by
    subst hv1 hv2 hv3 hv4 hv5 hv7 hvs
    match j, hj with
    | 0, _ => rfl
    | 1, _ => rfl
    | 2, _ => rfl
    | 3, _ => rfl
    | 4, _ => rfl
    | 5, _ => rfl
    | 6, _ => rfl
    | 7, _ => rfl
    | 8, _ => rfl
    | 9, _ => rfl
    | 10, _ => rfl
    | 11, _ => rfl
    | j + 12, h => exact absurd h (by omega)
  clear s0 hv0 hv1 hv2 hv3 hv4 hv5 hv7 hvs
  go_enter Tryd.func24, Tryd.ntmps24
  go_upto_region 1 with fail
  clear hz
  clear hW0
  have KR : Hid (∀ W, Calls Tryd.prog 46 #[.agg (rsc k.rv k.ra k.rs)] W fun e w' => e = .returned (.bool (rok k.rv k.ra k.rs)) ∧ Below W.heap.size W w') := fun W => reserves_c _ _ _ W
  obtain ⟨ok, hok⟩ : ∃ b, rok k.rv k.ra k.rs = b := ⟨_, rfl⟩
  have HOK : Hid (rok k.rv k.ra k.rs = ok) := hok
  rw [hok] at KR
  clear hok
  by_cases h3 : k.md = 3
  · rw [if_pos h3] at hm; have HM : Hid (m = k.md) := hm.trans h3.symm; clear hm; have h3b : (k.md != 3) = false := by simp [h3]
    clear h3
    go_upto_region 12 with (go_at_call 44; refine (KS.out _).mono ?_; rintro e w1 ⟨rfl, hw1⟩; subst hw1)
    have R0 := (((((((((r0.out.put (i := 0) (.int .u64 (n64 v0))).put (i := 1) (.int .u64 0)).put (i := 35) (.int .u64 (n64 vs))).put (i := 36) (.int .u64 (n64 v1))).put (i := 37) (.int .u64 (n64 v2))).put (i := 38) (.int .u64 (n64 v3))).put (i := 39) (.int .u64 (n64 v4))).put (i := 40) (.int .u64 (n64 v5))).put (i := 42) (.int .u64 (n64 v7)))
    rw [cpc_pc, cpc_x0, cpc_s0, cpc_s1, cpc_s2, cpc_s3, cpc_s4, cpc_s5, cpc_s7] at R0
    refine go_on2 (motive := fun W => Code.wp _ _ _ _ W) (a := w) (B := w.heap.size) (n := w.heap.size + 2) (row_cast R0 (show _ = cpc { k with pc := v0, x := upd k.x 0 0#64, md := m, s := upd (upd (upd (upd (upd (upd (upd k.s 0 vs) 1 v1) 2 v2) 3 v3) 4 v4) 5 v5) 7 v7 } by rw [HM.out])) (Row.other (Row.other (Row.other (Row.other (Row.other (Row.other (Row.other (Row.other (Row.other r1.out (by omega) _) (by omega) _) (by omega) _) (by omega) _) (by omega) _) (by omega) _) (by omega) _) (by omega) _) (by omega) _) (below_put (below_put (below_put (below_put (below_put (below_put (below_put (below_put (below_put b0.out (Nat.le_refl _) _) (Nat.le_refl _) _) (Nat.le_refl _) _) (Nat.le_refl _) _) (Nat.le_refl _) _) (Nat.le_refl _) _) (Nat.le_refl _) _) (Nat.le_refl _) _) (Nat.le_refl _) _) (by simp; exact HS.out) ?_
    clear R0 HM h3b r0 r1 b0 HS f0 K0 Kx Km Kw K1 K2 K3 K4 K5 K6 K7 K8 K9 K10 K11 K12 Kv Ka Ks B0 B1 B2 B3 B4 B5 B7 KS
    intro W1 r0 r1 b0 s0
    have R0 : Hid (Row W1 w.heap.size (cpc { k with pc := v0, x := upd k.x 0 0#64, md := m, s := upd (upd (upd (upd (upd (upd (upd k.s 0 vs) 1 v1) 2 v2) 3 v3) 4 v4) 5 v5) 7 v7 }) 31) := r0
    have R1 : Hid (Row W1 (w.heap.size + 1) (cpc cz) 31) := r1
    have S0 : Hid (W1.heap.size = w.heap.size + 2) := s0
    have BB : Hid (Below w.heap.size w W1) := b0
    clear r0 r1 b0 s0
    go_upto_region 13 with (first | (refine wpList_load_agg (by rfl) 27 _ (by rfl) w.heap.size 47 (by rfl) (pc k.c k.a) _ R0.out.pmp Tryd.underlying27 (by rfl) (info_pmp _ _) ?_) | (go_at_call 45; refine (KP.out _).mono ?_; rintro e w2 ⟨rfl, hb2⟩; have HB2 : Hid (Below W1.heap.size W1 w2) := hb2; clear hb2) | (refine wpList_store_part (by rfl) 27 _ _ (by rfl) (by rfl) w.heap.size 47 (pc (PC k.c) (PA k.a)) (by rfl) (by rfl) ((R0.out.later HB2.out (by rw [S0.out]; omega)).there (by rw [cpc_size, pc_size]; omega)) (info_pmp _ _) (pc_ones _ _) ?_))
    refine go_on2 (motive := fun W => Code.wp _ _ _ _ W) (a := w) (B := w.heap.size) (n := w2.heap.size) (row_cast ((R0.out.later HB2.out (by rw [S0.out]; omega)).lay (pc (PC k.c) (PA k.a)).toList 47) (show _ = cpc { pc := v0, x := upd k.x 0 0#64, md := m, wt := k.wt, s := upd (upd (upd (upd (upd (upd (upd k.s 0 vs) 1 v1) 2 v2) 3 v3) 4 v4) 5 v5) 7 v7, c := PC k.c, a := PA k.a, rv := k.rv, ra := k.ra, rs := k.rs } from cpc_pmp _ _ _)) (Row.lays (by omega) _ _ (R1.out.later HB2.out (by rw [S0.out]; omega))) (below_lay (Nat.le_refl _) _ _ (BB.out.trans (HB2.out.mono (by rw [S0.out]; omega)))) (size_lay _ _ _ _) ?_
    have SS : Hid (w.heap.size + 2 ≤ w2.heap.size) := by have := HB2.out.size; rw [S0.out] at this; exact this
    clear R0 R1 S0 BB HB2 KP
    intro W3 r0 r1 b0 s0
    have R0 : Hid (Row W3 w.heap.size (cpc { pc := v0, x := upd k.x 0 0#64, md := m, wt := k.wt, s := upd (upd (upd (upd (upd (upd (upd k.s 0 vs) 1 v1) 2 v2) 3 v3) 4 v4) 5 v5) 7 v7, c := PC k.c, a := PA k.a, rv := k.rv, ra := k.ra, rs := k.rs }) 31) := r0
    have R1 : Hid (Row W3 (w.heap.size + 1) (cpc cz) 31) := r1
    have S0 : Hid (w.heap.size + 2 ≤ W3.heap.size) := by show _ ≤ _; rw [s0]; exact SS.out
    have BB : Hid (Below w.heap.size w W3) := b0
    clear r0 r1 b0 s0 SS
    cases ok with
    | true =>
      have HE : Hid (cpc { pc := v0, x := upd k.x 0 0#64, md := m, wt := k.wt, s := upd (upd (upd (upd (upd (upd (upd k.s 0 vs) 1 v1) 2 v2) 3 v3) 4 v4) 5 v5) 7 v7, c := PC k.c, a := PA k.a, rv := k.rv, ra := k.ra, rs := k.rs } = cpc (PR k)) := by (have hk := HOK.out; rw [HF.out, if_pos hk, if_pos hk, hk]; exact Alk.cells ⟨rfl, fun _ _ => rfl, rfl, rfl, HV.out, fun _ _ => rfl, fun _ _ => rfl, by (show k.rv = true; rw [rok_t] at hk; clear R0 R1 S0 BB HF HV HOK; simp_all), rfl, rfl⟩)
      go_upto_region 15 with (first | (refine wpList_load_agg (by rfl) 29 _ (by rfl) w.heap.size 79 (by rfl) (rsc k.rv k.ra k.rs) _ R0.out.res Tryd.underlying29 (by rfl) (info_res _ _ _) ?_) | (go_at_call 46; refine (KR.out _).mono ?_; rintro e w4 ⟨rfl, hb2⟩; have HB4 : Hid (Below W3.heap.size W3 w4) := hb2; clear hb2))
      refine go_on2 (motive := fun W => Code.wp _ _ _ _ W) (a := w) (B := w.heap.size) (n := w4.heap.size) (row_cast (R0.out.later HB4.out R0.out.lt) HE.out) (R1.out.later HB4.out R1.out.lt) (BB.out.trans (HB4.out.mono BB.out.size)) rfl ?_
      clear R0 R1 S0 BB HB4 HE HF HV KR HOK
      intro W5 r0 r1 b0 s0
      have R0 : Hid (Row W5 w.heap.size (cpc (PR k)) 31) := r0
      have R1 : Hid (Row W5 (w.heap.size + 1) (cpc cz) 31) := r1
      have BB : Hid (Below w.heap.size w W5) := b0
      clear r0 r1 b0 s0
      go_wp2_with (first | (refine wpList_load_row (by rfl) _ _ (by rfl) _ (by rfl) 31 _ (0, 0) _ R0.out Tryd.underlying31 (by rfl) (info_cpu _) ?_) | (refine wpList_store_row (by rfl) _ _ _ (by rfl) (by rfl) _ _ _ (by rfl) (by rfl) R1.out (info_cpu _) (by rw [cpc_size, cpc_size]) (cpc_ones _) ?_))
      refine bodyPost_ret (v := .agg (cpc (PR k))) ?_ rfl ⟨rfl, ?_⟩
      · exact results_cell_row Tryd.results24 _ _ (w.heap.size + 1) 31 _ (0, 0) _ (by rfl) (setRow_heap _ _ _ _ _ _ R1.out) Tryd.underlying31 (by rfl) (info_cpu _)
      · exact below_row BB.out (by omega) _
    | false =>
      have HE : Hid (cpc { ({ pc := v0, x := upd k.x 0 0#64, md := m, wt := k.wt, s := upd (upd (upd (upd (upd (upd (upd k.s 0 vs) 1 v1) 2 v2) 3 v3) 4 v4) 5 v5) 7 v7, c := PC k.c, a := PA k.a, rv := k.rv, ra := k.ra, rs := k.rs } : Cp) with rv := false, ra := 0#64, rs := 0 } = cpc (PR k)) := by (have hk := HOK.out; rw [HF.out, if_neg (by rw [hk]; decide), if_neg (by rw [hk]; decide), hk]; exact Alk.cells ⟨rfl, fun _ _ => rfl, rfl, rfl, HV.out, fun _ _ => rfl, fun _ _ => rfl, rfl, rfl, rfl⟩)
      go_upto_region 15 with (first | (refine wpList_load_agg (by rfl) 29 _ (by rfl) w.heap.size 79 (by rfl) (rsc k.rv k.ra k.rs) _ R0.out.res Tryd.underlying29 (by rfl) (info_res _ _ _) ?_) | (go_at_call 46; refine (KR.out _).mono ?_; rintro e w4 ⟨rfl, hb2⟩; have HB4 : Hid (Below W3.heap.size W3 w4) := hb2; clear hb2) | (refine wpList_store_part (by rfl) 29 _ _ (by rfl) (by rfl) w.heap.size 79 (rsc false 0#64 0) (by rfl) (by rfl) ((R0.out.later HB4.out R0.out.lt).there (by rw [cpc_size]; decide)) (info_res _ _ _) (rsc_ones _ _ _) ?_))
      refine go_on2 (motive := fun W => Code.wp _ _ _ _ W) (a := w) (B := w.heap.size) (n := w4.heap.size) (row_cast ((R0.out.later HB4.out R0.out.lt).lay (rsc false 0#64 0).toList 79) ((cpc_res _ _ _ _).trans HE.out)) (Row.lays (by omega) _ _ (R1.out.later HB4.out R1.out.lt)) (below_lay (Nat.le_refl _) _ _ (BB.out.trans (HB4.out.mono BB.out.size))) (size_lay _ _ _ _) ?_
      clear R0 R1 S0 BB HB4 HE HF HV KR HOK
      intro W5 r0 r1 b0 s0
      have R0 : Hid (Row W5 w.heap.size (cpc (PR k)) 31) := r0
      have R1 : Hid (Row W5 (w.heap.size + 1) (cpc cz) 31) := r1
      have BB : Hid (Below w.heap.size w W5) := b0
      clear r0 r1 b0 s0
      go_wp2_with (first | (refine wpList_load_row (by rfl) _ _ (by rfl) _ (by rfl) 31 _ (0, 0) _ R0.out Tryd.underlying31 (by rfl) (info_cpu _) ?_) | (refine wpList_store_row (by rfl) _ _ _ (by rfl) (by rfl) _ _ _ (by rfl) (by rfl) R1.out (info_cpu _) (by rw [cpc_size, cpc_size]) (cpc_ones _) ?_))
      refine bodyPost_ret (v := .agg (cpc (PR k))) ?_ rfl ⟨rfl, ?_⟩
      · exact results_cell_row Tryd.results24 _ _ (w.heap.size + 1) 31 _ (0, 0) _ (by rfl) (setRow_heap _ _ _ _ _ _ R1.out) Tryd.underlying31 (by rfl) (info_cpu _)
      · exact below_row BB.out (by omega) _
  · rw [if_neg h3] at hm; have HM : Hid (m = 0) := hm; clear hm; have h3b : (k.md != 3) = true := by simp [h3]
    clear h3
    go_upto_region 12 with (go_at_call 44; refine (KS.out _).mono ?_; rintro e w1 ⟨rfl, hw1⟩; subst hw1)
    have R0 := ((((((((((r0.out.put (i := 0) (.int .u64 (n64 v0))).put (i := 1) (.int .u64 0)).put (i := 33) (.int .i64 0)).put (i := 35) (.int .u64 (n64 vs))).put (i := 36) (.int .u64 (n64 v1))).put (i := 37) (.int .u64 (n64 v2))).put (i := 38) (.int .u64 (n64 v3))).put (i := 39) (.int .u64 (n64 v4))).put (i := 40) (.int .u64 (n64 v5))).put (i := 42) (.int .u64 (n64 v7)))
    rw [cpc_pc, cpc_x0, cpc_md, cpc_s0, cpc_s1, cpc_s2, cpc_s3, cpc_s4, cpc_s5, cpc_s7] at R0
    refine go_on2 (motive := fun W => Code.wp _ _ _ _ W) (a := w) (B := w.heap.size) (n := w.heap.size + 2) (row_cast R0 (show _ = cpc { k with pc := v0, x := upd k.x 0 0#64, md := m, s := upd (upd (upd (upd (upd (upd (upd k.s 0 vs) 1 v1) 2 v2) 3 v3) 4 v4) 5 v5) 7 v7 } by rw [HM.out])) (Row.other (Row.other (Row.other (Row.other (Row.other (Row.other (Row.other (Row.other (Row.other (Row.other r1.out (by omega) _) (by omega) _) (by omega) _) (by omega) _) (by omega) _) (by omega) _) (by omega) _) (by omega) _) (by omega) _) (by omega) _) (below_put (below_put (below_put (below_put (below_put (below_put (below_put (below_put (below_put (below_put b0.out (Nat.le_refl _) _) (Nat.le_refl _) _) (Nat.le_refl _) _) (Nat.le_refl _) _) (Nat.le_refl _) _) (Nat.le_refl _) _) (Nat.le_refl _) _) (Nat.le_refl _) _) (Nat.le_refl _) _) (Nat.le_refl _) _) (by simp; exact HS.out) ?_
    clear R0 HM h3b r0 r1 b0 HS f0 K0 Kx Km Kw K1 K2 K3 K4 K5 K6 K7 K8 K9 K10 K11 K12 Kv Ka Ks B0 B1 B2 B3 B4 B5 B7 KS
    intro W1 r0 r1 b0 s0
    have R0 : Hid (Row W1 w.heap.size (cpc { k with pc := v0, x := upd k.x 0 0#64, md := m, s := upd (upd (upd (upd (upd (upd (upd k.s 0 vs) 1 v1) 2 v2) 3 v3) 4 v4) 5 v5) 7 v7 }) 31) := r0
    have R1 : Hid (Row W1 (w.heap.size + 1) (cpc cz) 31) := r1
    have S0 : Hid (W1.heap.size = w.heap.size + 2) := s0
    have BB : Hid (Below w.heap.size w W1) := b0
    clear r0 r1 b0 s0
    go_upto_region 13 with (first | (refine wpList_load_agg (by rfl) 27 _ (by rfl) w.heap.size 47 (by rfl) (pc k.c k.a) _ R0.out.pmp Tryd.underlying27 (by rfl) (info_pmp _ _) ?_) | (go_at_call 45; refine (KP.out _).mono ?_; rintro e w2 ⟨rfl, hb2⟩; have HB2 : Hid (Below W1.heap.size W1 w2) := hb2; clear hb2) | (refine wpList_store_part (by rfl) 27 _ _ (by rfl) (by rfl) w.heap.size 47 (pc (PC k.c) (PA k.a)) (by rfl) (by rfl) ((R0.out.later HB2.out (by rw [S0.out]; omega)).there (by rw [cpc_size, pc_size]; omega)) (info_pmp _ _) (pc_ones _ _) ?_))
    refine go_on2 (motive := fun W => Code.wp _ _ _ _ W) (a := w) (B := w.heap.size) (n := w2.heap.size) (row_cast ((R0.out.later HB2.out (by rw [S0.out]; omega)).lay (pc (PC k.c) (PA k.a)).toList 47) (show _ = cpc { pc := v0, x := upd k.x 0 0#64, md := m, wt := k.wt, s := upd (upd (upd (upd (upd (upd (upd k.s 0 vs) 1 v1) 2 v2) 3 v3) 4 v4) 5 v5) 7 v7, c := PC k.c, a := PA k.a, rv := k.rv, ra := k.ra, rs := k.rs } from cpc_pmp _ _ _)) (Row.lays (by omega) _ _ (R1.out.later HB2.out (by rw [S0.out]; omega))) (below_lay (Nat.le_refl _) _ _ (BB.out.trans (HB2.out.mono (by rw [S0.out]; omega)))) (size_lay _ _ _ _) ?_
    have SS : Hid (w.heap.size + 2 ≤ w2.heap.size) := by have := HB2.out.size; rw [S0.out] at this; exact this
    clear R0 R1 S0 BB HB2 KP
    intro W3 r0 r1 b0 s0
    have R0 : Hid (Row W3 w.heap.size (cpc { pc := v0, x := upd k.x 0 0#64, md := m, wt := k.wt, s := upd (upd (upd (upd (upd (upd (upd k.s 0 vs) 1 v1) 2 v2) 3 v3) 4 v4) 5 v5) 7 v7, c := PC k.c, a := PA k.a, rv := k.rv, ra := k.ra, rs := k.rs }) 31) := r0
    have R1 : Hid (Row W3 (w.heap.size + 1) (cpc cz) 31) := r1
    have S0 : Hid (w.heap.size + 2 ≤ W3.heap.size) := by show _ ≤ _; rw [s0]; exact SS.out
    have BB : Hid (Below w.heap.size w W3) := b0
    clear r0 r1 b0 s0 SS
    cases ok with
    | true =>
      have HE : Hid (cpc { pc := v0, x := upd k.x 0 0#64, md := m, wt := k.wt, s := upd (upd (upd (upd (upd (upd (upd k.s 0 vs) 1 v1) 2 v2) 3 v3) 4 v4) 5 v5) 7 v7, c := PC k.c, a := PA k.a, rv := k.rv, ra := k.ra, rs := k.rs } = cpc (PR k)) := by (have hk := HOK.out; rw [HF.out, if_pos hk, if_pos hk, hk]; exact Alk.cells ⟨rfl, fun _ _ => rfl, rfl, rfl, HV.out, fun _ _ => rfl, fun _ _ => rfl, by (show k.rv = true; rw [rok_t] at hk; clear R0 R1 S0 BB HF HV HOK; simp_all), rfl, rfl⟩)
      go_upto_region 15 with (first | (refine wpList_load_agg (by rfl) 29 _ (by rfl) w.heap.size 79 (by rfl) (rsc k.rv k.ra k.rs) _ R0.out.res Tryd.underlying29 (by rfl) (info_res _ _ _) ?_) | (go_at_call 46; refine (KR.out _).mono ?_; rintro e w4 ⟨rfl, hb2⟩; have HB4 : Hid (Below W3.heap.size W3 w4) := hb2; clear hb2))
      refine go_on2 (motive := fun W => Code.wp _ _ _ _ W) (a := w) (B := w.heap.size) (n := w4.heap.size) (row_cast (R0.out.later HB4.out R0.out.lt) HE.out) (R1.out.later HB4.out R1.out.lt) (BB.out.trans (HB4.out.mono BB.out.size)) rfl ?_
      clear R0 R1 S0 BB HB4 HE HF HV KR HOK
      intro W5 r0 r1 b0 s0
      have R0 : Hid (Row W5 w.heap.size (cpc (PR k)) 31) := r0
      have R1 : Hid (Row W5 (w.heap.size + 1) (cpc cz) 31) := r1
      have BB : Hid (Below w.heap.size w W5) := b0
      clear r0 r1 b0 s0
      go_wp2_with (first | (refine wpList_load_row (by rfl) _ _ (by rfl) _ (by rfl) 31 _ (0, 0) _ R0.out Tryd.underlying31 (by rfl) (info_cpu _) ?_) | (refine wpList_store_row (by rfl) _ _ _ (by rfl) (by rfl) _ _ _ (by rfl) (by rfl) R1.out (info_cpu _) (by rw [cpc_size, cpc_size]) (cpc_ones _) ?_))
      refine bodyPost_ret (v := .agg (cpc (PR k))) ?_ rfl ⟨rfl, ?_⟩
      · exact results_cell_row Tryd.results24 _ _ (w.heap.size + 1) 31 _ (0, 0) _ (by rfl) (setRow_heap _ _ _ _ _ _ R1.out) Tryd.underlying31 (by rfl) (info_cpu _)
      · exact below_row BB.out (by omega) _
    | false =>
      have HE : Hid (cpc { ({ pc := v0, x := upd k.x 0 0#64, md := m, wt := k.wt, s := upd (upd (upd (upd (upd (upd (upd k.s 0 vs) 1 v1) 2 v2) 3 v3) 4 v4) 5 v5) 7 v7, c := PC k.c, a := PA k.a, rv := k.rv, ra := k.ra, rs := k.rs } : Cp) with rv := false, ra := 0#64, rs := 0 } = cpc (PR k)) := by (have hk := HOK.out; rw [HF.out, if_neg (by rw [hk]; decide), if_neg (by rw [hk]; decide), hk]; exact Alk.cells ⟨rfl, fun _ _ => rfl, rfl, rfl, HV.out, fun _ _ => rfl, fun _ _ => rfl, rfl, rfl, rfl⟩)
      go_upto_region 15 with (first | (refine wpList_load_agg (by rfl) 29 _ (by rfl) w.heap.size 79 (by rfl) (rsc k.rv k.ra k.rs) _ R0.out.res Tryd.underlying29 (by rfl) (info_res _ _ _) ?_) | (go_at_call 46; refine (KR.out _).mono ?_; rintro e w4 ⟨rfl, hb2⟩; have HB4 : Hid (Below W3.heap.size W3 w4) := hb2; clear hb2) | (refine wpList_store_part (by rfl) 29 _ _ (by rfl) (by rfl) w.heap.size 79 (rsc false 0#64 0) (by rfl) (by rfl) ((R0.out.later HB4.out R0.out.lt).there (by rw [cpc_size]; decide)) (info_res _ _ _) (rsc_ones _ _ _) ?_))
      refine go_on2 (motive := fun W => Code.wp _ _ _ _ W) (a := w) (B := w.heap.size) (n := w4.heap.size) (row_cast ((R0.out.later HB4.out R0.out.lt).lay (rsc false 0#64 0).toList 79) ((cpc_res _ _ _ _).trans HE.out)) (Row.lays (by omega) _ _ (R1.out.later HB4.out R1.out.lt)) (below_lay (Nat.le_refl _) _ _ (BB.out.trans (HB4.out.mono BB.out.size))) (size_lay _ _ _ _) ?_
      clear R0 R1 S0 BB HB4 HE HF HV KR HOK
      intro W5 r0 r1 b0 s0
      have R0 : Hid (Row W5 w.heap.size (cpc (PR k)) 31) := r0
      have R1 : Hid (Row W5 (w.heap.size + 1) (cpc cz) 31) := r1
      have BB : Hid (Below w.heap.size w W5) := b0
      clear r0 r1 b0 s0
      go_wp2_with (first | (refine wpList_load_row (by rfl) _ _ (by rfl) _ (by rfl) 31 _ (0, 0) _ R0.out Tryd.underlying31 (by rfl) (info_cpu _) ?_) | (refine wpList_store_row (by rfl) _ _ _ (by rfl) (by rfl) _ _ _ (by rfl) (by rfl) R1.out (info_cpu _) (by rw [cpc_size, cpc_size]) (cpc_ones _) ?_))
      refine bodyPost_ret (v := .agg (cpc (PR k))) ?_ rfl ⟨rfl, ?_⟩
      · exact results_cell_row Tryd.results24 _ _ (w.heap.size + 1) 31 _ (0, 0) _ (by rfl) (setRow_heap _ _ _ _ _ _ R1.out) Tryd.underlying31 (by rfl) (info_cpu _)
      · exact below_row BB.out (by omega) _
end Go.Proofs.YthmjimmmkoeeoaaDoor
