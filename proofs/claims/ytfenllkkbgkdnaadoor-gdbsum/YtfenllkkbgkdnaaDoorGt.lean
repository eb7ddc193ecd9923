/-
  Layer 17 (gdb): GdbSum.
-/
import Derived.Test.YtfenllkkbgkdnaaDoorGs
namespace Go.Proofs.YtfenllkkbgkdnaaDoor
set_option linter.unusedVariables false
set_option maxRecDepth 100000
open Go.ChangeShapes Go.WideShapes Go.ChangeAt Go.RowKit Go.Deep
theorem start1G (w : World) (cs : Array Value) (t : TypeId) : ∃ W, w.alloc (.cells cs t) = W ∧ Hid (Row W w.heap.size cs t) ∧ Hid (Below w.heap.size w W) ∧ W.heap.size = w.heap.size + 1 := ⟨_, rfl, Row.new _ _ _, below_al _ _, by simp⟩
set_option maxHeartbeats 8000000 in
theorem gdbSum_long (l : List Int) (a : Option Addr) (c : Nat) (K C : Int) (w : World) (hv : Byt w (.slice a l.length c) l) (hall : AllB l) (hl : l.length ≤ 140737488351232) (hlo : 1000 < l.length) :
    Calls Tryd.prog 4 #[.agg #[.slice a l.length c, .int .i64 K, .int .u8 C]] w fun e w' => e = .returned (.bool true) ∧ Below w.heap.size w w' := by
  have HP : Hid (∀ a c W, Byt W (.slice a l.length c) l → Calls Tryd.prog 6 #[.slice a l.length c] W fun e w' => ∃ u, e = .returned (.tuple #[u, .int .i64 3]) ∧ Owb W.heap.size w' u (pkB l) ∧ Fr W.heap.size W w') := fun a c W h => by
    have q := pack_c l a c W h hall
    rw [show pkE l = 3 by unfold pkE; rw [if_pos hlo]] at q
    exact q
  have hlo2 : (1000 : Int) < (l.length : Int) := by omega
  obtain ⟨n, hn⟩ : ∃ n, n = l.length := ⟨_, rfl⟩
  rw [← hn] at HP hl hlo2 hv ⊢
  have HN := Hid.mk' hn
  obtain ⟨W0, hW0, r0, b0, s0⟩ := start1G w #[.slice a n c, .int .i64 K, .int .u8 C] 28
  have HY0 := Hid.mk' (hv.later b0.out rfl)
  have HB0 := Hid.mk' b0.out
  have HR0 := Hid.mk' r0.out
  have c0 : W0.cell? ⟨w.heap.size, 0, none⟩ = some (.slice a n c) := r0.out.cell 0
  clear hn hv hlo
  go_enter Tryd.func4, Tryd.ntmps4
  go_upto_region 1 with fail
  clear hW0 r0 b0
  go_upto_region 2 with (first | (at_builtin; refine appY (by rfl) _ _ (by rfl) W0.heap.size _ _ [] l (by rfl) (owb_nil _ _) (by rfl) HY0.out (by rw [← HN.out]; simp; omega) (Nat.le_refl _) ?_; intro u W1 ho hf; have HO := Hid.mk' ho; have HF := Hid.mk' hf; clear ho hf; obtain ⟨au, cu, eu, hcu⟩ := (Byt.of_own HO.out).len; rw [List.nil_append, ← HN.out] at eu; subst eu; have HU : Hid (Byt W1 (.slice au n cu) l) := Byt.of_own HO.out; have HB1 : Hid (Below W0.heap.size W0 W1) := HF.out.b; clear HO HF hcu) | (go_at_call 6; refine (HP.out _ _ W1 HU.out).mono ?_; rintro e W2 ⟨b1, rfl, ho, hf⟩; have HF1 := Hid.mk' hf; clear ho hf))
  have HB2 : Hid (Below W0.heap.size W0 W2) := HB1.out.trans (HF1.out.b.mono HB1.out.size)
  have c1 : W2.cell? ⟨w.heap.size, 0, none⟩ = some (.slice a n c) := (HB2.out.cell (by show w.heap.size < W0.heap.size; omega)).trans c0
  clear c0
  go_wp2
  go_ret
  exact ⟨rfl, HB0.out.trans (HB2.out.mono HB0.out.size)⟩
set_option maxHeartbeats 8000000 in
theorem gdbSum_short (l : List Int) (a : Option Addr) (c : Nat) (K C : Int) (w : World) (hv : Byt w (.slice a l.length c) l) (hall : AllB l) (hlo : l.length ≤ 1000) (hC : 0 ≤ C ∧ C ≤ 255) (hE : Es w) :
    Calls Tryd.prog 4 #[.agg #[.slice a l.length c, .int .i64 K, .int .u8 C]] w fun e w' => e = .returned (.bool true) ∧ Below w.heap.size w w' := by
  have HP : Hid (∀ a c W, Byt W (.slice a l.length c) l → Calls Tryd.prog 6 #[.slice a l.length c] W fun e w' => ∃ u, e = .returned (.tuple #[u, .int .i64 0]) ∧ Owb W.heap.size w' u (pkB l) ∧ Fr W.heap.size W w') := fun a c W h => by
    have q := pack_c l a c W h hall
    rw [show pkE l = 0 by unfold pkE; rw [if_neg (by omega)]] at q
    exact q
  have HBD : Hid (∀ k, 1 ≤ k → k < (pkB l).length → (pkB l).getD k 0 ≠ 35 → C ≠ (pkB l).getD k 0 → ((pkB l).length - 2 ≤ k → bits .or .u8 C 32 ≠ bits .or .u8 ((pkB l).getD k 0) 32) → upE ((pkB l).set k C) ≠ 0 ∧ upB ((pkB l).set k C) = []) := fun k h1 h2 h3 h4 h5 => sum_bad hlo hall hC h1 h2 h3 h4 h5
  have HRL : Hid (4 ≤ (pkB l).length ∧ (pkB l).length ≤ 3000) := (by have := escL_len l; rw [pkB_pk hlo, pk_len]; unfold Hid; omega)
  have HAL : Hid (AllB (pkB l)) := pk_all hall
  have HQ : Hid (∀ k a c W, Below w.heap.size w W → Byt W (.slice a (pkB l).length c) ((pkB l).set k C) → Calls Tryd.prog 7 #[.slice a (pkB l).length c] W fun e w' => ∃ u, e = .returned (.tuple #[u, .int .i64 (upE ((pkB l).set k C))]) ∧ Byt w' u (upB ((pkB l).set k C)) ∧ Below W.heap.size W w') := fun k a c W hb h => by
    have q := unp_c ((pkB l).set k C) a c W (by rw [List.length_set]; exact h) (fun x hx => by rcases List.mem_or_eq_of_mem_set hx with q | q; exact HAL.out x q; rw [q]; exact hC) (by rw [List.length_set]; have := HRL.out; omega) (hE.later hb)
    rw [List.length_set] at q
    exact q
  have hlo2 : decide ((1000 : Int) < (l.length : Int)) = false := by simp; omega
  obtain ⟨n, hn⟩ : ∃ n, n = l.length := ⟨_, rfl⟩
  rw [← hn] at HP hlo hlo2 hv ⊢
  have HN := Hid.mk' hn
  obtain ⟨W0, hW0, r0, b0, s0⟩ := start1G w #[.slice a n c, .int .i64 K, .int .u8 C] 28
  have HY0 := Hid.mk' (hv.later b0.out rfl)
  have HB0 := Hid.mk' b0.out
  have HR0 := Hid.mk' r0.out
  have c0 : W0.cell? ⟨w.heap.size, 0, none⟩ = some (.slice a n c) := r0.out.cell 0
  obtain ⟨g0, hg0⟩ : ∃ g0, g0 = w.heap.size := ⟨_, rfl⟩
  have HG0 := Hid.mk' hg0
  generalize pkB l = R at *
  obtain ⟨r, hr⟩ : ∃ r, r = R.length := ⟨_, rfl⟩
  rw [← hr] at HBD HRL HQ
  have HRR := Hid.mk' hr
  clear hn hv hE hr hall
  go_enter Tryd.func4, Tryd.ntmps4
  go_upto_region 1 with fail
  clear hW0 r0 b0
  go_upto_region 2 with (first | (at_builtin; refine appY (by rfl) _ _ (by rfl) W0.heap.size _ _ [] l (by rfl) (owb_nil _ _) (by rfl) HY0.out (by rw [← HN.out]; simp; omega) (Nat.le_refl _) ?_; intro u W1 ho hf; have HO := Hid.mk' ho; have HF := Hid.mk' hf; clear ho hf; obtain ⟨au, cu, eu, hcu⟩ := (Byt.of_own HO.out).len; rw [List.nil_append, ← HN.out] at eu; subst eu; have HU : Hid (Byt W1 (.slice au n cu) l) := Byt.of_own HO.out; have HB1 : Hid (Below W0.heap.size W0 W1) := HF.out.b; clear HO HF hcu) | (go_at_call 6; refine (HP.out _ _ W1 HU.out).mono ?_; rintro e W2 ⟨b1, rfl, ho, hf⟩; have HO1 := Hid.mk' ho; have HF1 := Hid.mk' hf; obtain ⟨ab, cb, eb⟩ := lenv ho; rw [← HRR.out] at eb; subst eb; clear ho hf))
  obtain ⟨gb, eab⟩ : ∃ gb, ab = some ⟨gb, 0, none⟩ := (by
    have q := HO1.out
    unfold Owb at q
    rw [← HRR.out] at q
    obtain ⟨g1, c1, e1⟩ := Go.Joins.ownsRow_form q (by have := HRL.out.1; omega)
    simp only [Value.slice.injEq] at e1
    exact ⟨g1, e1.1⟩)
  subst eab
  have HBW : Hid (Below W0.heap.size W0 W2) := HB1.out.trans (HF1.out.b.mono HB1.out.size)
  have HB2 : Hid (Below w.heap.size w W2) := HB0.out.trans (HBW.out.mono HB0.out.size)
  have HR2 : Hid (Row W2 w.heap.size #[.slice a n c, .int .i64 K, .int .u8 C] 28) := HR0.out.later HBW.out HR0.out.lt
  have c1 : W2.cell? ⟨w.heap.size, 0, none⟩ = some (.slice a n c) := HR2.out.cell 0
  have hr4 : decide ((r : Int) < 4) = false := by have := HRL.out.1; simp; omega
  have HW1 : Hid (w.heap.size ≤ W1.heap.size) := (by have := HB1.out.size; unfold Hid; omega)
  have hrb : (r : Int) ≤ 3000 := by have := HRL.out.2; omega
  have hr5 : (4 : Int) ≤ (r : Int) := by have := HRL.out.1; omega
  clear c0 HB1 HF1 HU HY0 HP HB0 HR0 HBW
  go_upto_region 6 with fail
  have hKl : ∀ x : Later W2, x.1.cell? ⟨w.heap.size, 1, none⟩ = some (.int .i64 K) := later_atG HR2.out.lt (HR2.out.cell 1)
  have hCl : ∀ x : Later W2, x.1.cell? ⟨w.heap.size, 2, none⟩ = some (.int .u8 C) := later_atG HR2.out.lt (HR2.out.cell 2)
  have HGB : Hid (gb < W2.heap.size) := (World.ownsRow.lt HO1.out gb rfl).2
  clear c1
  by_cases k1 : K < 1
  · have q1 : decide (K < 1) = true := by simp [k1]
    clear HQ HBD
    have := later_nonempty W2
    refine wp_region_later (x0 := Later.start W2) (by kernel_rfl) (by kernel_rfl) ?_
    repeat (go_big_quiet_step (fail))
    refine wpQuiet_nil ?_
    rintro w' ⟨x9, rfl⟩
    have HBX : Hid (Below w.heap.size w x9.1) := HB2.out.trans (x9.below.mono HB2.out.size)
    clear this
    go_wp2
    go_ret
    exact ⟨rfl, HBX.out⟩
  by_cases k2 : (r : Int) ≤ K
  · have q1 : decide (K < 1) = false := by simp; omega
    have q2 : decide ((r : Int) ≤ K) = true := by simp [k2]
    clear HQ HBD k1
    have := later_nonempty W2
    refine wp_region_later (x0 := Later.start W2) (by kernel_rfl) (by kernel_rfl) ?_
    repeat (go_big_quiet_step (fail))
    refine wpQuiet_nil ?_
    rintro w' ⟨x9, rfl⟩
    have HBX : Hid (Below w.heap.size w x9.1) := HB2.out.trans (x9.below.mono HB2.out.size)
    clear this
    go_wp2
    go_ret
    exact ⟨rfl, HBX.out⟩
  obtain ⟨k, rfl⟩ : ∃ k : Nat, K = (k : Int) := ⟨K.toNat, by omega⟩
  have q1 : decide ((k : Int) < 1) = false := by simp; omega
  have q2 : decide (r ≤ k) = false := by simp; omega
  have hkr : k < r := by omega
  have hkr2 : (k : Int) < (r : Int) := by omega
  have HK1 : Hid (1 ≤ k) := (by unfold Hid; omega)
  have hRl : ∀ x : Later W2, x.1.cell? ⟨gb, k, none⟩ = some (.int .u8 (R.getD k 0)) := later_atG HGB.out (by have q := (byt_set (k := k) HO1.out HRR.out hkr C).1; exact q)
  have HHA := Hid.mk' (HBD.out k HK1.out hkr)
  obtain ⟨z, hz⟩ : ∃ z, z = R.getD k 0 := ⟨_, rfl⟩
  rw [← hz] at hRl HHA
  clear k1 k2 HBD hz
  by_cases e1 : z = 35
  · subst e1
    clear HQ HHA
    have := later_nonempty W2
    refine wp_region_later (x0 := Later.start W2) (by kernel_rfl) (by kernel_rfl) ?_
    repeat (go_big_quiet_step (fail))
    refine wpQuiet_nil ?_
    rintro w' ⟨x9, rfl⟩
    have HBX : Hid (Below w.heap.size w x9.1) := HB2.out.trans (x9.below.mono HB2.out.size)
    clear this
    go_wp2
    go_ret
    exact ⟨rfl, HBX.out⟩
  have f1 : (z == 35) = false := by simp [e1]
  by_cases e2 : C = 35
  · have f2 : (C == 35) = true := by simp [e2]
    clear HQ HHA e1 e2
    have := later_nonempty W2
    refine wp_region_later (x0 := Later.start W2) (by kernel_rfl) (by kernel_rfl) ?_
    repeat (go_big_quiet_step (fail))
    refine wpQuiet_nil ?_
    rintro w' ⟨x9, rfl⟩
    have HBX : Hid (Below w.heap.size w x9.1) := HB2.out.trans (x9.below.mono HB2.out.size)
    clear this
    go_wp2
    go_ret
    exact ⟨rfl, HBX.out⟩
  have f2 : (C == 35) = false := by simp [e2]
  by_cases e3 : C = 36
  · have f3 : (C == 36) = true := by simp [e3]
    clear HQ HHA e1 e2 e3
    have := later_nonempty W2
    refine wp_region_later (x0 := Later.start W2) (by kernel_rfl) (by kernel_rfl) ?_
    repeat (go_big_quiet_step (fail))
    refine wpQuiet_nil ?_
    rintro w' ⟨x9, rfl⟩
    have HBX : Hid (Below w.heap.size w x9.1) := HB2.out.trans (x9.below.mono HB2.out.size)
    clear this
    go_wp2
    go_ret
    exact ⟨rfl, HBX.out⟩
  have f3 : (C == 36) = false := by simp [e3]
  by_cases e4 : C = z
  · have f4 : (C == z) = true := by simp [e4]
    clear HQ HHA e1 e2 e3 e4
    have := later_nonempty W2
    refine wp_region_later (x0 := Later.start W2) (by kernel_rfl) (by kernel_rfl) ?_
    repeat (go_big_quiet_step (fail))
    refine wpQuiet_nil ?_
    rintro w' ⟨x9, rfl⟩
    have HBX : Hid (Below w.heap.size w x9.1) := HB2.out.trans (x9.below.mono HB2.out.size)
    clear this
    go_wp2
    go_ret
    exact ⟨rfl, HBX.out⟩
  have f4 : (C == z) = false := by simp [e4]
  replace HHA := Hid.mk' (HHA.out e1 e4)
  clear e1 e2 e3 e4
  have := later_nonempty W2
  refine wp_region_later (x0 := Later.start W2) (by kernel_rfl) (by kernel_rfl) ?_
  repeat (go_big_quiet_step (fail))
  refine wpQuiet_nil ?_
  rintro w' ⟨x9, rfl⟩
  have HB3 : Hid (Below w.heap.size w x9.1) := HB2.out.trans (x9.below.mono HB2.out.size)
  have HR3 := Hid.mk' (HR2.out.later x9.below HR2.out.lt)
  have HO3 : Hid (Owb W1.heap.size x9.1 (.slice (some ⟨gb, 0, none⟩) r cb) R) := own_later HO1.out x9.below rfl
  have HG3 : Hid (gb < x9.1.heap.size) := Nat.lt_of_lt_of_le HGB.out x9.below.size
  have hR3 := hRl x9
  generalize x9.1 = W3 at *
  clear this hKl hCl hRl HR2 HB2 HO1 HGB f1 f2 f3 f4 q1 q2
  go_upto_region 8 with fail
  have hKl : ∀ x : Later W3, x.1.cell? ⟨w.heap.size, 1, none⟩ = some (.int .i64 (k : Int)) := later_atG HR3.out.lt (HR3.out.cell 1)
  have hCl : ∀ x : Later W3, x.1.cell? ⟨w.heap.size, 2, none⟩ = some (.int .u8 C) := later_atG HR3.out.lt (HR3.out.cell 2)
  have hRl : ∀ x : Later W3, x.1.cell? ⟨gb, k, none⟩ = some (.int .u8 z) := later_atG HG3.out hR3
  by_cases hd : (r : Int) - 2 ≤ (k : Int) ∧ bits .or .u8 C 32 = bits .or .u8 z 32
  · have p1 : decide ((r : Int) - 2 ≤ (k : Int)) = true := by simp; omega
    have p2 : (bits .or .u8 C 32 == bits .or .u8 z 32) = true := by simp [hd.2]
    clear HQ HHA hd
    have := later_nonempty W3
    refine wp_region_later (x0 := Later.start W3) (by kernel_rfl) (by kernel_rfl) ?_
    repeat (go_big_quiet_step (fail))
    refine wpQuiet_nil ?_
    rintro w' ⟨x9, rfl⟩
    have HBX : Hid (Below w.heap.size w x9.1) := HB3.out.trans (x9.below.mono HB3.out.size)
    clear this
    go_wp2
    go_ret
    exact ⟨rfl, HBX.out⟩
  replace HHA := Hid.mk' (HHA.out (fun h => by intro e; exact hd ⟨by have := HRL.out.1; omega, e⟩))
  have fin : Hid (∀ W, Below w.heap.size w W → Row W w.heap.size #[.slice a n c, .int .i64 (k : Int), .int .u8 C] 28 → Owb W1.heap.size W (.slice (some ⟨gb, 0, none⟩) r cb) R → W.cell? ⟨w.heap.size, 1, none⟩ = some (.int .i64 (k : Int)) ∧ W.cell? ⟨w.heap.size, 2, none⟩ = some (.int .u8 C) ∧ (W.cell? ⟨gb, k, none⟩ = some (.int .u8 (R.getD k 0)) ∧ W.frozen? ⟨gb, k, none⟩ = false ∧ Byt (W.setCell ⟨gb, k, none⟩ (.int .u8 C)) (.slice (some ⟨gb, 0, none⟩) r cb) (R.set k C))) := fun W h1 h2 h3 => ⟨h2.cell 1, h2.cell 2, byt_set h3 HRR.out hkr C⟩
  have HWB : Hid (w.heap.size ≤ gb) := (by have := (World.ownsRow.lt HO3.out gb rfl).1; have := HW1.out; unfold Hid; omega)
  have HQK := Hid.mk' (HQ.out k)
  obtain ⟨E, hEE⟩ : ∃ E, E = upE (R.set k C) := ⟨_, rfl⟩
  obtain ⟨T, hTT⟩ : ∃ T, T = upB (R.set k C) := ⟨_, rfl⟩
  rw [← hEE, ← hTT] at HHA HQK
  have hE0 : (E != 0) = true := by simp [HHA.out.1]
  have HT0 : Hid (T = []) := HHA.out.2
  clear hEE hTT HHA HQ
  by_cases hp : (r : Int) - 2 ≤ (k : Int)
  · have p1 : decide ((r : Int) - 2 ≤ (k : Int)) = true := by simp; omega
    have p2 : (bits .or .u8 C 32 == bits .or .u8 z 32) = false := by rw [beq_eq_false_iff_ne]; exact fun e => hd ⟨hp, e⟩
    clear hd hp
    have := later_nonempty W3
    refine wp_region_later (x0 := Later.start W3) (by kernel_rfl) (by kernel_rfl) ?_
    repeat (go_big_quiet_step (fail))
    refine wpQuiet_nil ?_
    rintro w' ⟨x8, rfl⟩
    have HB4 : Hid (Below w.heap.size w x8.1) := HB3.out.trans (x8.below.mono HB3.out.size)
    obtain ⟨d1, d2, d3, d4, d5⟩ := fin.out x8.1 HB4.out (HR3.out.later x8.below HR3.out.lt) (own_later HO3.out x8.below rfl)
    have HY5 := Hid.mk' d5
    generalize x8.1 = W4 at *
    generalize R.getD k 0 = z5 at *
    clear this hKl hCl hRl HR3 HB3 HO3 fin d5 p1
    have HB5 : Hid (Below w.heap.size w (W4.setCell ⟨gb, k, none⟩ (.int .u8 C))) := Below.setCell HB4.out HWB.out _
    have HQX := Hid.mk' (HQK.out _ _ _ HB5.out HY5.out)
    clear HQK
    go_wp2_with (go_at_call 7; refine HQX.out.mono ?_; rintro e W5 ⟨u, rfl, ho, hf⟩; have HF5 := Hid.mk' hf; rw [HT0.out] at ho; obtain ⟨a5, c5, e5, _⟩ := ho.len; subst e5; clear ho hf)
    go_ret
    exact ⟨rfl, HB5.out.trans (HF5.out.mono HB5.out.size)⟩
  · have p1 : decide ((r : Int) - 2 ≤ (k : Int)) = false := by simp; omega
    clear hd hp
    have := later_nonempty W3
    refine wp_region_later (x0 := Later.start W3) (by kernel_rfl) (by kernel_rfl) ?_
    repeat (go_big_quiet_step (fail))
    refine wpQuiet_nil ?_
    rintro w' ⟨x8, rfl⟩
    have HB4 : Hid (Below w.heap.size w x8.1) := HB3.out.trans (x8.below.mono HB3.out.size)
    obtain ⟨d1, d2, d3, d4, d5⟩ := fin.out x8.1 HB4.out (HR3.out.later x8.below HR3.out.lt) (own_later HO3.out x8.below rfl)
    have HY5 := Hid.mk' d5
    generalize x8.1 = W4 at *
    generalize R.getD k 0 = z5 at *
    clear this hKl hCl hRl HR3 HB3 HO3 fin d5 p1
    have HB5 : Hid (Below w.heap.size w (W4.setCell ⟨gb, k, none⟩ (.int .u8 C))) := Below.setCell HB4.out HWB.out _
    have HQX := Hid.mk' (HQK.out _ _ _ HB5.out HY5.out)
    clear HQK
    go_wp2_with (go_at_call 7; refine HQX.out.mono ?_; rintro e W5 ⟨u, rfl, ho, hf⟩; have HF5 := Hid.mk' hf; rw [HT0.out] at ho; obtain ⟨a5, c5, e5, _⟩ := ho.len; subst e5; clear ho hf)
    go_ret
    exact ⟨rfl, HB5.out.trans (HF5.out.mono HB5.out.size)⟩
end Go.Proofs.YtfenllkkbgkdnaaDoor
