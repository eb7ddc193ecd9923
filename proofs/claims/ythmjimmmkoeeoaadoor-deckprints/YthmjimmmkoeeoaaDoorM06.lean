/-
  Cpr.
-/
import Derived.Test.YthmjimmmkoeeoaaDoorM05
namespace Go.Proofs.YthmjimmmkoeeoaaDoor
set_option linter.unusedVariables false
open Go.ChangeShapes Go.WideShapes Go.ChangeAt Go.RowKit Go.Deep
/-- Is MPP 1 or 2? -/
abbrev mq (v : BitVec 64) : Prop := v >>> 11 &&& 3#64 = 1#64 ∨ v >>> 11 &&& 3#64 = 2#64
/-- mstatus such as can be. -/
def stB (v : BitVec 64) : BitVec 64 := (if mq (v &&& 2234504#64) then v &&& 2234504#64 &&& ~~~6144#64 else v &&& 2234504#64) ||| 8589934592#64
/-- The registers such as can be. -/
def prS (s : Nat → BitVec 64) : Nat → BitVec 64
  | 0 => stB (s 0)
  | 1 => s 1 &&& ~~~2#64
  | 2 => s 2 &&& 2184#64
  | 3 => s 3 &&& 7#64
  | 4 => s 4 &&& 5#64
  | 5 => s 5 &&& 1#64
  | 7 => s 7 &&& ~~~1#64
  | j => s j
/-- A reservation that can be. -/
def rok (v : Bool) (a : BitVec 64) (s : Int) : Bool := v && (s == 4 && a % 4#64 == 0#64 || s == 8 && a % 8#64 == 0#64)
/-- The Cpu that is proper. -/
def PR (k : Cp) : Cp := { pc := k.pc &&& ~~~1#64, x := upd k.x 0 0#64, md := if k.md = 3 then 3 else 0, wt := k.wt, s := prS k.s, c := PC k.c, a := PA k.a, rv := rok k.rv k.ra k.rs, ra := if rok k.rv k.ra k.rs then k.ra else 0#64, rs := if rok k.rv k.ra k.rs then k.rs else 0 }
set_option maxRecDepth 100000 in
theorem rStatus_c (v : BitVec 64) (w : World) : Calls Tryd.prog 33 #[.int .u64 (n64 v)] w fun e w' => e = .returned (.int .u64 (n64 (stB v))) ∧ w' = w := by
  have b0 : bits .and .u64 (n64 v) 2234504 = n64 (v &&& 2234504#64) := n64_and v 2234504#64
  unfold stB
  generalize v &&& 2234504#64 = u at b0 ⊢
  have b1 : n64 u / (2048 : Int) = n64 (u >>> 11) := (n64_shr u 11)
  have b2 : bits .and .u64 (n64 (u >>> 11)) 3 = n64 (u >>> 11 &&& 3#64) := n64_and (u >>> 11) 3#64
  by_cases h1 : u >>> 11 &&& 3#64 = 1#64
  · rw [if_pos (show mq u from Or.inl h1)]
    have b3 : bits .andNot .u64 (n64 u) 6144 = n64 (u &&& ~~~6144#64) := n64_andNot u 6144#64
    have b4 : bits .or .u64 (n64 (u &&& ~~~6144#64)) 8589934592 = n64 (u &&& ~~~6144#64 ||| 8589934592#64) := n64_or _ 8589934592#64
    have e1 : n64 (u >>> 11 &&& 3#64) = 1 := by rw [h1]; rfl
    generalize u &&& ~~~6144#64 ||| 8589934592#64 = r at b4 ⊢
    generalize u &&& ~~~6144#64 = r' at b3 b4
    generalize u >>> 11 &&& 3#64 = m at b2 e1
    generalize u >>> 11 = m' at b1 b2
    clear h1
    go_enter Tryd.func33, Tryd.ntmps33
    go_wp2
    go_ret
    exact ⟨rfl, rfl⟩
  · have e1 : ¬ n64 (u >>> 11 &&& 3#64) = 1 := fun e => h1 (n64_inj.1 e)
    by_cases h2 : u >>> 11 &&& 3#64 = 2#64
    · rw [if_pos (show mq u from Or.inr h2)]
      have b3 : bits .andNot .u64 (n64 u) 6144 = n64 (u &&& ~~~6144#64) := n64_andNot u 6144#64
      have b4 : bits .or .u64 (n64 (u &&& ~~~6144#64)) 8589934592 = n64 (u &&& ~~~6144#64 ||| 8589934592#64) := n64_or _ 8589934592#64
      have e2 : n64 (u >>> 11 &&& 3#64) = 2 := by rw [h2]; rfl
      generalize u &&& ~~~6144#64 ||| 8589934592#64 = r at b4 ⊢
      generalize u &&& ~~~6144#64 = r' at b3 b4
      generalize u >>> 11 &&& 3#64 = m at b2 e1 e2
      generalize u >>> 11 = m' at b1 b2
      clear h1 h2
      go_enter Tryd.func33, Tryd.ntmps33
      go_wp2
      go_ret
      exact ⟨rfl, rfl⟩
    · rw [if_neg (show ¬ mq u from fun h => h.elim h1 h2)]
      have b4 : bits .or .u64 (n64 u) 8589934592 = n64 (u ||| 8589934592#64) := n64_or _ 8589934592#64
      have e2 : ¬ n64 (u >>> 11 &&& 3#64) = 2 := fun e => h2 (n64_inj.1 e)
      have e3 : (n64 (u >>> 11 &&& 3#64) == 1 || n64 (u >>> 11 &&& 3#64) == 2) = false := by simp [e1, e2]
      generalize u ||| 8589934592#64 = r at b4 ⊢
      generalize u >>> 11 &&& 3#64 = m at b2 e1 e2 e3
      generalize u >>> 11 = m' at b1 b2
      clear h1 h2
      go_enter Tryd.func33, Tryd.ntmps33
      go_wp2
      go_ret
      exact ⟨rfl, rfl⟩
theorem rok_ff (a : BitVec 64) (s : Int) : rok false a s = false := rfl
theorem n64_mod (a b : BitVec 64) : n64 a % n64 b = n64 (a % b) := by
  unfold n64; rw [BitVec.toNat_umod]; omega
theorem rok_t (v : Bool) (a : BitVec 64) (s : Int) : rok v a s = (v && (s == 4 && (n64 a).tmod 4 == 0 || s == 8 && (n64 a).tmod 8 == 0)) := by
  have h4 : (a % 4#64 == 0#64) = ((n64 a).tmod 4 == 0) := by
    rw [Int.tmod_eq_emod_of_nonneg (n64_lo a), Bool.eq_iff_iff, beq_iff_eq, beq_iff_eq]
    exact (n64_inj (x := a % 4#64) (y := 0#64)).symm.trans (by rw [← n64_mod]; exact Iff.rfl)
  have h8 : (a % 8#64 == 0#64) = ((n64 a).tmod 8 == 0) := by
    rw [Int.tmod_eq_emod_of_nonneg (n64_lo a), Bool.eq_iff_iff, beq_iff_eq, beq_iff_eq]
    exact (n64_inj (x := a % 8#64) (y := 0#64)).symm.trans (by rw [← n64_mod]; exact Iff.rfl)
  unfold rok; rw [h4, h8]
theorem t84 (a : BitVec 64) : (n64 a).tmod 8 = 0 → (n64 a).tmod 4 = 0 := by
  rw [Int.tmod_eq_emod_of_nonneg (n64_lo a), Int.tmod_eq_emod_of_nonneg (n64_lo a)]; omega
set_option maxRecDepth 100000 in
set_option maxHeartbeats 2000000 in
theorem rPr_c (k : Cp) (w : World) : Calls Tryd.prog 14 #[.agg (cpc k)] w fun e w' => e = .returned (.agg (cpc (PR k))) ∧ Below w.heap.size w w' := by
  have hz := zero_cpu
  obtain ⟨W0, hW0, r0, r1, b0, s0⟩ := start2 w (cpc k) (cpc cz) 31 31
  have HS : Hid (W0.heap.size = w.heap.size + 2) := s0
  have K := r0.out.cls
  have f0 := r0.out.froz
  have B0 : bits .andNot .u64 (n64 k.pc) 1 = n64 (k.pc &&& ~~~1#64) := n64_andNot _ 1#64
  have B1 : bits .andNot .u64 (n64 (k.s 1)) 2 = n64 (k.s 1 &&& ~~~2#64) := n64_andNot _ 2#64
  have B2 : bits .and .u64 (n64 (k.s 2)) 2184 = n64 (k.s 2 &&& 2184#64) := n64_and _ 2184#64
  have B3 : bits .and .u64 (n64 (k.s 3)) 7 = n64 (k.s 3 &&& 7#64) := n64_and _ 7#64
  have B4 : bits .and .u64 (n64 (k.s 4)) 5 = n64 (k.s 4 &&& 5#64) := n64_and _ 5#64
  have B5 : bits .and .u64 (n64 (k.s 5)) 1 = n64 (k.s 5 &&& 1#64) := n64_and _ 1#64
  have B7 : bits .andNot .u64 (n64 (k.s 7)) 1 = n64 (k.s 7 &&& ~~~1#64) := n64_andNot _ 1#64
  have KS : Hid (∀ W, Calls Tryd.prog 33 #[.int .u64 (n64 (k.s 0))] W fun e w' => e = .returned (.int .u64 (n64 (stB (k.s 0)))) ∧ w' = W) := fun W => rStatus_c _ W
  have KP : Hid (∀ W, Calls Tryd.prog 34 #[.agg (pc k.c k.a)] W fun e w' => e = .returned (.agg (pc (PC k.c) (PA k.a))) ∧ Below W.heap.size W w') := fun W => rProper_c k.c k.a W
  obtain ⟨v0, hv0⟩ : ∃ v0, k.pc &&& ~~~1#64 = v0 := ⟨_, rfl⟩
  obtain ⟨v1, hv1⟩ : ∃ v1, k.s 1 &&& ~~~2#64 = v1 := ⟨_, rfl⟩
  obtain ⟨v2, hv2⟩ : ∃ v2, k.s 2 &&& 2184#64 = v2 := ⟨_, rfl⟩
  obtain ⟨v3, hv3⟩ : ∃ v3, k.s 3 &&& 7#64 = v3 := ⟨_, rfl⟩
  obtain ⟨v4, hv4⟩ : ∃ v4, k.s 4 &&& 5#64 = v4 := ⟨_, rfl⟩
  obtain ⟨v5, hv5⟩ : ∃ v5, k.s 5 &&& 1#64 = v5 := ⟨_, rfl⟩
  obtain ⟨v7, hv7⟩ : ∃ v7, k.s 7 &&& ~~~1#64 = v7 := ⟨_, rfl⟩
  obtain ⟨vs, hvs⟩ : ∃ vs, stB (k.s 0) = vs := ⟨_, rfl⟩
  rw [hv0] at B0; rw [hv1] at B1; rw [hv2] at B2; rw [hv3] at B3; rw [hv4] at B4; rw [hv5] at B5; rw [hv7] at B7; rw [hvs] at KS
  obtain ⟨K0, Kx, Km, Kw, K1, K2, K3, K4, K5, K6, K7, K8, K9, K10, K11, K12, Kv, Ka, Ks⟩ := K
  obtain ⟨m, hm⟩ : ∃ m : Int, m = if k.md = 3 then 3 else 0 := ⟨_, rfl⟩
  have HF : Hid (PR k = { pc := v0, x := upd k.x 0 0#64, md := m, wt := k.wt, s := prS k.s, c := PC k.c, a := PA k.a, rv := rok k.rv k.ra k.rs, ra := if rok k.rv k.ra k.rs then k.ra else 0#64, rs := if rok k.rv k.ra k.rs then k.rs else 0 }) := by
    rw [hm, ← hv0]; rfl
  have HV : Hid (∀ j, j < 12 → upd (upd (upd (upd (upd (upd (upd k.s 0 vs) 1 v1) 2 v2) 3 v3) 4 v4) 5 v5) 7 v7 j = prS k.s j) := fun j hj => by
    subst hv1 hv2 hv3 hv4 hv5 hv7 hvs
    match j, hj with
    | 0, _ => rfl
    | 1, _ => rfl
    | 2, _ => rfl
    | 3, _ => rfl
    | 4, _ => rfl
    | 5, _ => rfl
    | 6, _ => rfl
    | 7, _ => rfl
    | 8, _ => rfl
    | 9, _ => rfl
    | 10, _ => rfl
    | 11, _ => rfl
    | j + 12, h => exact absurd h (by omega)
  clear s0 hv0 hv1 hv2 hv3 hv4 hv5 hv7 hvs
  go_enter Tryd.func14, Tryd.ntmps14
  go_upto_region 1 with fail
  clear hz
  clear hW0
  by_cases h3 : k.md = 3
  · rw [if_pos h3] at hm; have HM : Hid (m = k.md) := hm.trans h3.symm; clear hm; have h3b : (k.md != 3) = false := by simp [h3]
    clear h3
    go_upto_region 12 with (go_at_call 33; refine (KS.out _).mono ?_; rintro e w1 ⟨rfl, hw1⟩; subst hw1)
    have R0 := (((((((((r0.out.put (i := 0) (.int .u64 (n64 v0))).put (i := 1) (.int .u64 0)).put (i := 35) (.int .u64 (n64 vs))).put (i := 36) (.int .u64 (n64 v1))).put (i := 37) (.int .u64 (n64 v2))).put (i := 38) (.int .u64 (n64 v3))).put (i := 39) (.int .u64 (n64 v4))).put (i := 40) (.int .u64 (n64 v5))).put (i := 42) (.int .u64 (n64 v7)))
    rw [cpc_pc, cpc_x0, cpc_s0, cpc_s1, cpc_s2, cpc_s3, cpc_s4, cpc_s5, cpc_s7] at R0
    refine go_on2 (motive := fun W => Code.wp _ _ _ _ W) (a := w) (B := w.heap.size) (n := w.heap.size + 2) (row_cast R0 (show _ = cpc { k with pc := v0, x := upd k.x 0 0#64, md := m, s := upd (upd (upd (upd (upd (upd (upd k.s 0 vs) 1 v1) 2 v2) 3 v3) 4 v4) 5 v5) 7 v7 } by rw [HM.out])) (Row.other (Row.other (Row.other (Row.other (Row.other (Row.other (Row.other (Row.other (Row.other r1.out (by omega) _) (by omega) _) (by omega) _) (by omega) _) (by omega) _) (by omega) _) (by omega) _) (by omega) _) (by omega) _) (below_put (below_put (below_put (below_put (below_put (below_put (below_put (below_put (below_put b0.out (Nat.le_refl _) _) (Nat.le_refl _) _) (Nat.le_refl _) _) (Nat.le_refl _) _) (Nat.le_refl _) _) (Nat.le_refl _) _) (Nat.le_refl _) _) (Nat.le_refl _) _) (Nat.le_refl _) _) (by simp; exact HS.out) ?_
    clear R0 HM h3b r0 r1 b0 HS f0 K0 Kx Km Kw K1 K2 K3 K4 K5 K6 K7 K8 K9 K10 K11 K12 Kv Ka Ks B0 B1 B2 B3 B4 B5 B7 KS
    intro W1 r0 r1 b0 s0
    have R0 : Hid (Row W1 w.heap.size (cpc { k with pc := v0, x := upd k.x 0 0#64, md := m, s := upd (upd (upd (upd (upd (upd (upd k.s 0 vs) 1 v1) 2 v2) 3 v3) 4 v4) 5 v5) 7 v7 }) 31) := r0
    have R1 : Hid (Row W1 (w.heap.size + 1) (cpc cz) 31) := r1
    have S0 : Hid (W1.heap.size = w.heap.size + 2) := s0
    have BB : Hid (Below w.heap.size w W1) := b0
    clear r0 r1 b0 s0
    go_upto_region 13 with (first | (refine wpList_load_agg (by rfl) 27 _ (by rfl) w.heap.size 47 (by rfl) (pc k.c k.a) _ R0.out.pmp Tryd.underlying27 (by rfl) (info_pmp _ _) ?_) | (go_at_call 34; refine (KP.out _).mono ?_; rintro e w2 ⟨rfl, hb2⟩; have HB2 : Hid (Below W1.heap.size W1 w2) := hb2; clear hb2) | (refine wpList_store_part (by rfl) 27 _ _ (by rfl) (by rfl) w.heap.size 47 (pc (PC k.c) (PA k.a)) (by rfl) (by rfl) ((R0.out.later HB2.out (by rw [S0.out]; omega)).there (by rw [cpc_size, pc_size]; omega)) (info_pmp _ _) (pc_ones _ _) ?_))
    refine go_on2 (motive := fun W => Code.wp _ _ _ _ W) (a := w) (B := w.heap.size) (n := w2.heap.size) (row_cast ((R0.out.later HB2.out (by rw [S0.out]; omega)).lay (pc (PC k.c) (PA k.a)).toList 47) (show _ = cpc { pc := v0, x := upd k.x 0 0#64, md := m, wt := k.wt, s := upd (upd (upd (upd (upd (upd (upd k.s 0 vs) 1 v1) 2 v2) 3 v3) 4 v4) 5 v5) 7 v7, c := PC k.c, a := PA k.a, rv := k.rv, ra := k.ra, rs := k.rs } from cpc_pmp _ _ _)) (Row.lays (by omega) _ _ (R1.out.later HB2.out (by rw [S0.out]; omega))) (below_lay (Nat.le_refl _) _ _ (BB.out.trans (HB2.out.mono (by rw [S0.out]; omega)))) (size_lay _ _ _ _) ?_
    have SS : Hid (w.heap.size + 2 ≤ w2.heap.size) := by have := HB2.out.size; rw [S0.out] at this; exact this
    clear R0 R1 S0 BB HB2 KP
    intro W3 r0 r1 b0 s0
    have R0 : Hid (Row W3 w.heap.size (cpc { pc := v0, x := upd k.x 0 0#64, md := m, wt := k.wt, s := upd (upd (upd (upd (upd (upd (upd k.s 0 vs) 1 v1) 2 v2) 3 v3) 4 v4) 5 v5) 7 v7, c := PC k.c, a := PA k.a, rv := k.rv, ra := k.ra, rs := k.rs }) 31) := r0
    have R1 : Hid (Row W3 (w.heap.size + 1) (cpc cz) 31) := r1
    have S0 : Hid (w.heap.size + 2 ≤ W3.heap.size) := by show _ ≤ _; rw [s0]; exact SS.out
    have BB : Hid (Below w.heap.size w W3) := b0
    clear r0 r1 b0 s0 SS
    have Kv : W3.cell? ⟨w.heap.size, 79, none⟩ = some (.bool k.rv) := R0.out.cls.rv
    have Ka : W3.cell? ⟨w.heap.size, 80, none⟩ = some (.int .u64 (n64 k.ra)) := R0.out.cls.ra
    have Ks : W3.cell? ⟨w.heap.size, 81, none⟩ = some (.int .i64 k.rs) := R0.out.cls.rs
    have f0 := R0.out.froz
    have n1 : ¬ w.heap.size = W3.heap.size := by have := S0.out; omega
    have n2 : ¬ W3.heap.size = w.heap.size := by have := S0.out; omega
    have l1 : w.heap.size < W3.heap.size := by have := S0.out; omega
    go_upto_region 16 with fail
    all_goals (
      first
      | (have hk : rok k.rv k.ra k.rs = true := by (rw [rok_t]; have := t84 k.ra; generalize (n64 k.ra).tmod 8 = T8 at *; generalize (n64 k.ra).tmod 4 = T4 at *; clear R0 R1 S0 BB Kv Ka Ks f0 n1 n2 l1 HF HV; simp_all)
         have HE : Hid (cpc { pc := v0, x := upd k.x 0 0#64, md := m, wt := k.wt, s := upd (upd (upd (upd (upd (upd (upd k.s 0 vs) 1 v1) 2 v2) 3 v3) 4 v4) 5 v5) 7 v7, c := PC k.c, a := PA k.a, rv := k.rv, ra := k.ra, rs := k.rs } = cpc (PR k)) := by (rw [HF.out, if_pos hk, if_pos hk, hk]; exact Alk.cells ⟨rfl, fun _ _ => rfl, rfl, rfl, HV.out, fun _ _ => rfl, fun _ _ => rfl, by (show k.rv = true; rw [rok_t] at hk; clear R0 R1 S0 BB Kv Ka Ks f0 n1 n2 l1 HF HV; simp_all), rfl, rfl⟩)
         clear hk
         refine go_on2 (motive := fun W => Code.wp _ _ _ _ W) (a := w) (B := w.heap.size) (row_cast (R0.out.old l1 _) HE.out) (R1.out.old (by have := S0.out; omega) _) (BB.out.alloc (by omega) _) rfl ?_)
      | (have hk : rok k.rv k.ra k.rs = false := by (rw [rok_t]; have := t84 k.ra; generalize (n64 k.ra).tmod 8 = T8 at *; generalize (n64 k.ra).tmod 4 = T4 at *; clear R0 R1 S0 BB Kv Ka Ks f0 n1 n2 l1 HF HV; simp_all)
         have HE : Hid (cpc { ({ pc := v0, x := upd k.x 0 0#64, md := m, wt := k.wt, s := upd (upd (upd (upd (upd (upd (upd k.s 0 vs) 1 v1) 2 v2) 3 v3) 4 v4) 5 v5) 7 v7, c := PC k.c, a := PA k.a, rv := k.rv, ra := k.ra, rs := k.rs } : Cp) with rv := false, ra := 0#64, rs := 0 } = cpc (PR k)) := by (rw [HF.out, if_neg (by rw [hk]; decide), if_neg (by rw [hk]; decide), hk]; exact Alk.cells ⟨rfl, fun _ _ => rfl, rfl, rfl, HV.out, fun _ _ => rfl, fun _ _ => rfl, rfl, rfl, rfl⟩)
         clear hk
         refine go_on2 (motive := fun W => Code.wp _ _ _ _ W) (a := w) (B := w.heap.size) (row_cast (Row.old R0.out.nores (by simpa using l1) _) HE.out) (Row.old (Row.other (Row.other (Row.other R1.out (by omega) _) (by omega) _) (by omega) _) (by simp; have := S0.out; omega) _) (Below.alloc (below_put (below_put (below_put BB.out (Nat.le_refl _) _) (Nat.le_refl _) _) (Nat.le_refl _) _) (by simp; omega) _) rfl ?_))
    all_goals (
      clear R0 R1 BB Kv Ka Ks f0 n1 n2 l1 HE HF HV
      intro W5 r0 r1 b0 s0
      have R0 : Hid (Row W5 w.heap.size (cpc (PR k)) 31) := r0
      have R1 : Hid (Row W5 (w.heap.size + 1) (cpc cz) 31) := r1
      have BB : Hid (Below w.heap.size w W5) := b0
      clear r0 r1 b0 s0 S0
      go_wp2_with (first | (refine wpList_load_row (by rfl) _ _ (by rfl) _ (by rfl) 31 _ (0, 0) _ R0.out Tryd.underlying31 (by rfl) (info_cpu _) ?_) | (refine wpList_store_row (by rfl) _ _ _ (by rfl) (by rfl) _ _ _ (by rfl) (by rfl) R1.out (info_cpu _) (by rw [cpc_size, cpc_size]) (cpc_ones _) ?_))
      refine bodyPost_ret (v := .agg (cpc (PR k))) ?_ rfl ⟨rfl, ?_⟩
      · exact results_cell_row Tryd.results14 _ _ (w.heap.size + 1) 31 _ (0, 0) _ (by rfl) (setRow_heap _ _ _ _ _ _ R1.out) Tryd.underlying31 (by rfl) (info_cpu _)
      · exact below_row BB.out (by omega) _)
  · rw [if_neg h3] at hm; have HM : Hid (m = 0) := hm; clear hm; have h3b : (k.md != 3) = true := by simp [h3]
    clear h3
    go_upto_region 12 with (go_at_call 33; refine (KS.out _).mono ?_; rintro e w1 ⟨rfl, hw1⟩; subst hw1)
    have R0 := ((((((((((r0.out.put (i := 0) (.int .u64 (n64 v0))).put (i := 1) (.int .u64 0)).put (i := 33) (.int .i64 0)).put (i := 35) (.int .u64 (n64 vs))).put (i := 36) (.int .u64 (n64 v1))).put (i := 37) (.int .u64 (n64 v2))).put (i := 38) (.int .u64 (n64 v3))).put (i := 39) (.int .u64 (n64 v4))).put (i := 40) (.int .u64 (n64 v5))).put (i := 42) (.int .u64 (n64 v7)))
    rw [cpc_pc, cpc_x0, cpc_md, cpc_s0, cpc_s1, cpc_s2, cpc_s3, cpc_s4, cpc_s5, cpc_s7] at R0
    refine go_on2 (motive := fun W => Code.wp _ _ _ _ W) (a := w) (B := w.heap.size) (n := w.heap.size + 2) (row_cast R0 (show _ = cpc { k with pc := v0, x := upd k.x 0 0#64, md := m, s := upd (upd (upd (upd (upd (upd (upd k.s 0 vs) 1 v1) 2 v2) 3 v3) 4 v4) 5 v5) 7 v7 } by rw [HM.out])) (Row.other (Row.other (Row.other (Row.other (Row.other (Row.other (Row.other (Row.other (Row.other (Row.other r1.out (by omega) _) (by omega) _) (by omega) _) (by omega) _) (by omega) _) (by omega) _) (by omega) _) (by omega) _) (by omega) _) (by omega) _) (below_put (below_put (below_put (below_put (below_put (below_put (below_put (below_put (below_put (below_put b0.out (Nat.le_refl _) _) (Nat.le_refl _) _) (Nat.le_refl _) _) (Nat.le_refl _) _) (Nat.le_refl _) _) (Nat.le_refl _) _) (Nat.le_refl _) _) (Nat.le_refl _) _) (Nat.le_refl _) _) (Nat.le_refl _) _) (by simp; exact HS.out) ?_
    clear R0 HM h3b r0 r1 b0 HS f0 K0 Kx Km Kw K1 K2 K3 K4 K5 K6 K7 K8 K9 K10 K11 K12 Kv Ka Ks B0 B1 B2 B3 B4 B5 B7 KS
    intro W1 r0 r1 b0 s0
    have R0 : Hid (Row W1 w.heap.size (cpc { k with pc := v0, x := upd k.x 0 0#64, md := m, s := upd (upd (upd (upd (upd (upd (upd k.s 0 vs) 1 v1) 2 v2) 3 v3) 4 v4) 5 v5) 7 v7 }) 31) := r0
    have R1 : Hid (Row W1 (w.heap.size + 1) (cpc cz) 31) := r1
    have S0 : Hid (W1.heap.size = w.heap.size + 2) := s0
    have BB : Hid (Below w.heap.size w W1) := b0
    clear r0 r1 b0 s0
    go_upto_region 13 with (first | (refine wpList_load_agg (by rfl) 27 _ (by rfl) w.heap.size 47 (by rfl) (pc k.c k.a) _ R0.out.pmp Tryd.underlying27 (by rfl) (info_pmp _ _) ?_) | (go_at_call 34; refine (KP.out _).mono ?_; rintro e w2 ⟨rfl, hb2⟩; have HB2 : Hid (Below W1.heap.size W1 w2) := hb2; clear hb2) | (refine wpList_store_part (by rfl) 27 _ _ (by rfl) (by rfl) w.heap.size 47 (pc (PC k.c) (PA k.a)) (by rfl) (by rfl) ((R0.out.later HB2.out (by rw [S0.out]; omega)).there (by rw [cpc_size, pc_size]; omega)) (info_pmp _ _) (pc_ones _ _) ?_))
    refine go_on2 (motive := fun W => Code.wp _ _ _ _ W) (a := w) (B := w.heap.size) (n := w2.heap.size) (row_cast ((R0.out.later HB2.out (by rw [S0.out]; omega)).lay (pc (PC k.c) (PA k.a)).toList 47) (show _ = cpc { pc := v0, x := upd k.x 0 0#64, md := m, wt := k.wt, s := upd (upd (upd (upd (upd (upd (upd k.s 0 vs) 1 v1) 2 v2) 3 v3) 4 v4) 5 v5) 7 v7, c := PC k.c, a := PA k.a, rv := k.rv, ra := k.ra, rs := k.rs } from cpc_pmp _ _ _)) (Row.lays (by omega) _ _ (R1.out.later HB2.out (by rw [S0.out]; omega))) (below_lay (Nat.le_refl _) _ _ (BB.out.trans (HB2.out.mono (by rw [S0.out]; omega)))) (size_lay _ _ _ _) ?_
    have SS : Hid (w.heap.size + 2 ≤ w2.heap.size) := by have := HB2.out.size; rw [S0.out] at this; exact this
    clear R0 R1 S0 BB HB2 KP
    intro W3 r0 r1 b0 s0
    have R0 : Hid (Row W3 w.heap.size (cpc { pc := v0, x := upd k.x 0 0#64, md := m, wt := k.wt, s := upd (upd (upd (upd (upd (upd (upd k.s 0 vs) 1 v1) 2 v2) 3 v3) 4 v4) 5 v5) 7 v7, c := PC k.c, a := PA k.a, rv := k.rv, ra := k.ra, rs := k.rs }) 31) := r0
    have R1 : Hid (Row W3 (w.heap.size + 1) (cpc cz) 31) := r1
    have S0 : Hid (w.heap.size + 2 ≤ W3.heap.size) := by show _ ≤ _; rw [s0]; exact SS.out
    have BB : Hid (Below w.heap.size w W3) := b0
    clear r0 r1 b0 s0 SS
    have Kv : W3.cell? ⟨w.heap.size, 79, none⟩ = some (.bool k.rv) := R0.out.cls.rv
    have Ka : W3.cell? ⟨w.heap.size, 80, none⟩ = some (.int .u64 (n64 k.ra)) := R0.out.cls.ra
    have Ks : W3.cell? ⟨w.heap.size, 81, none⟩ = some (.int .i64 k.rs) := R0.out.cls.rs
    have f0 := R0.out.froz
    have n1 : ¬ w.heap.size = W3.heap.size := by have := S0.out; omega
    have n2 : ¬ W3.heap.size = w.heap.size := by have := S0.out; omega
    have l1 : w.heap.size < W3.heap.size := by have := S0.out; omega
    go_upto_region 16 with fail
    all_goals (
      first
      | (have hk : rok k.rv k.ra k.rs = true := by (rw [rok_t]; have := t84 k.ra; generalize (n64 k.ra).tmod 8 = T8 at *; generalize (n64 k.ra).tmod 4 = T4 at *; clear R0 R1 S0 BB Kv Ka Ks f0 n1 n2 l1 HF HV; simp_all)
         have HE : Hid (cpc { pc := v0, x := upd k.x 0 0#64, md := m, wt := k.wt, s := upd (upd (upd (upd (upd (upd (upd k.s 0 vs) 1 v1) 2 v2) 3 v3) 4 v4) 5 v5) 7 v7, c := PC k.c, a := PA k.a, rv := k.rv, ra := k.ra, rs := k.rs } = cpc (PR k)) := by (rw [HF.out, if_pos hk, if_pos hk, hk]; exact Alk.cells ⟨rfl, fun _ _ => rfl, rfl, rfl, HV.out, fun _ _ => rfl, fun _ _ => rfl, by (show k.rv = true; rw [rok_t] at hk; clear R0 R1 S0 BB Kv Ka Ks f0 n1 n2 l1 HF HV; simp_all), rfl, rfl⟩)
         clear hk
         refine go_on2 (motive := fun W => Code.wp _ _ _ _ W) (a := w) (B := w.heap.size) (row_cast (R0.out.old l1 _) HE.out) (R1.out.old (by have := S0.out; omega) _) (BB.out.alloc (by omega) _) rfl ?_)
      | (have hk : rok k.rv k.ra k.rs = false := by (rw [rok_t]; have := t84 k.ra; generalize (n64 k.ra).tmod 8 = T8 at *; generalize (n64 k.ra).tmod 4 = T4 at *; clear R0 R1 S0 BB Kv Ka Ks f0 n1 n2 l1 HF HV; simp_all)
         have HE : Hid (cpc { ({ pc := v0, x := upd k.x 0 0#64, md := m, wt := k.wt, s := upd (upd (upd (upd (upd (upd (upd k.s 0 vs) 1 v1) 2 v2) 3 v3) 4 v4) 5 v5) 7 v7, c := PC k.c, a := PA k.a, rv := k.rv, ra := k.ra, rs := k.rs } : Cp) with rv := false, ra := 0#64, rs := 0 } = cpc (PR k)) := by (rw [HF.out, if_neg (by rw [hk]; decide), if_neg (by rw [hk]; decide), hk]; exact Alk.cells ⟨rfl, fun _ _ => rfl, rfl, rfl, HV.out, fun _ _ => rfl, fun _ _ => rfl, rfl, rfl, rfl⟩)
         clear hk
         refine go_on2 (motive := fun W => Code.wp _ _ _ _ W) (a := w) (B := w.heap.size) (row_cast (Row.old R0.out.nores (by simpa using l1) _) HE.out) (Row.old (Row.other (Row.other (Row.other R1.out (by omega) _) (by omega) _) (by omega) _) (by simp; have := S0.out; omega) _) (Below.alloc (below_put (below_put (below_put BB.out (Nat.le_refl _) _) (Nat.le_refl _) _) (Nat.le_refl _) _) (by simp; omega) _) rfl ?_))
    all_goals (
      clear R0 R1 BB Kv Ka Ks f0 n1 n2 l1 HE HF HV
      intro W5 r0 r1 b0 s0
      have R0 : Hid (Row W5 w.heap.size (cpc (PR k)) 31) := r0
      have R1 : Hid (Row W5 (w.heap.size + 1) (cpc cz) 31) := r1
      have BB : Hid (Below w.heap.size w W5) := b0
      clear r0 r1 b0 s0 S0
      go_wp2_with (first | (refine wpList_load_row (by rfl) _ _ (by rfl) _ (by rfl) 31 _ (0, 0) _ R0.out Tryd.underlying31 (by rfl) (info_cpu _) ?_) | (refine wpList_store_row (by rfl) _ _ _ (by rfl) (by rfl) _ _ _ (by rfl) (by rfl) R1.out (info_cpu _) (by rw [cpc_size, cpc_size]) (cpc_ones _) ?_))
      refine bodyPost_ret (v := .agg (cpc (PR k))) ?_ rfl ⟨rfl, ?_⟩
      · exact results_cell_row Tryd.results14 _ _ (w.heap.size + 1) 31 _ (0, 0) _ (by rfl) (setRow_heap _ _ _ _ _ _ R1.out) Tryd.underlying31 (by rfl) (info_cpu _)
      · exact below_row BB.out (by omega) _)
end Go.Proofs.YthmjimmmkoeeoaaDoor
