/-
  Dp.
-/
import Derived.Test.YthmjimmmkoeeoaaDoorM25
namespace Go.Proofs.YthmjimmmkoeeoaaDoor
set_option linter.unusedVariables false
set_option maxRecDepth 100000
open Go.ChangeShapes Go.WideShapes Go.ChangeAt Go.RowKit Go.Deep Go.Shelf
theorem ones4 {a b c d : Value} (ha : a.oneCell' = true) (hb : b.oneCell' = true) (hc : c.oneCell' = true) (hd : d.oneCell' = true) : (#[a, b, c, d] : Array Value).all (·.oneCell') = true := by simp [ha, hb, hc, hd]
theorem n64_rng (x : BitVec 64) : 0 ≤ n64 x ∧ n64 x < 18446744073709551616 := by unfold n64; have := x.isLt; omega
theorem zero_sg (w : World) : (zeroValue 46).run Tryd.prog w = .ok (.agg #[.int .u64 0, .int .u64 0, .int .i64 0, .slice none 0 0]) w := by kernel_rfl
theorem zero_wd (w : World) : (zeroValue 48).run Tryd.prog w = .ok (.agg #[.bool false, .bool false, .bool false, .slice none 0 0]) w := by kernel_rfl
theorem all_succ {α : Type} (f : α → Bool) (z : α) (l : List α) (i : Nat) (h : i < l.length) : (l.take (i + 1)).all f = ((l.take i).all f && f (l.getD i z)) := by
  rw [List.take_succ_eq_append_getElem h, List.all_append]; simp [List.getD, h]
theorem all_miss {α : Type} (f : α → Bool) (z : α) (l : List α) (i : Nat) (h : i < l.length) (hf : f (l.getD i z) = false) : l.all f = false := by
  cases e : l.all f with
  | false => rfl
  | true =>
    have := List.all_eq_true.1 e (l.getD i z) (by rw [List.getD_eq_getElem?_getD, List.getElem?_eq_getElem h]; exact List.getElem_mem h)
    rw [hf] at this; cases this
/-- May RAM have so many bytes? As a number of 64 bits. -/
def rmB (U : Int) : Bool := decide (8 ≤ U) && decide (U ≤ 65536) && decide (U % 8 = 0)
theorem rmB_eq (r : Int) (h : -9223372036854775808 ≤ r ∧ r ≤ 9223372036854775807) : rmB (IntKind.u64.wrap r) = raV r := by
  have e : IntKind.u64.wrap r = r % 18446744073709551616 := by first | rfl | (unfold IntKind.wrap; simp [IntKind.signed, IntKind.bits])
  rw [e]; unfold rmB raV
  rcases (by omega : 0 ≤ r ∨ r < 0) with h0 | h0
  · rw [Int.emod_eq_of_lt h0 (by omega)]
  · have h1 : ¬ (r % 18446744073709551616 ≤ 65536) := by omega
    have h2 : ¬ (8 ≤ r) := by omega
    simp [h1, h2]
theorem ram_c (U : Int) (h : 0 ≤ U ∧ U < 18446744073709551616) (w : World) : Calls Tryd.prog 37 #[.int .u64 U] w fun e w' => e = .returned (.bool (rmB U)) ∧ w' = w := by
  obtain ⟨Z, hZ⟩ : ∃ Z, Z = rmB U := ⟨_, rfl⟩
  rw [← hZ]
  unfold rmB at hZ
  have hr : Int.tmod U 8 = U % 8 := Int.tmod_eq_emod_of_nonneg h.1
  by_cases h1 : 8 ≤ U
  · have d1 : decide (8 ≤ U) = true := by simpa using h1
    by_cases h2 : U ≤ 65536
    · have d2 : decide (U ≤ 65536) = true := by simpa using h2
      have hw : IntKind.u64.wrap (U % 8) = U % 8 := wrapU _ (by omega)
      obtain ⟨r, hr2⟩ : ∃ r, r = U % 8 := ⟨_, rfl⟩
      rw [← hr2] at hr hw hZ
      by_cases h3 : r = 0
      · subst h3
        have HR : Hid (Z = true) := by unfold Hid; rw [hZ]; simp [h1, h2]
        clear hZ h
        go_enter Tryd.func37, Tryd.ntmps37
        go_wp2
        go_ret
        exact ⟨by rw [HR.out]; rfl, rfl⟩
      · have d3 : (r == 0) = false := by simpa using h3
        have HR : Hid (Z = false) := by unfold Hid; rw [hZ]; simp [h3]
        clear hZ h hr2
        go_enter Tryd.func37, Tryd.ntmps37
        go_wp2
        go_ret
        exact ⟨by rw [HR.out]; rfl, rfl⟩
    · have d2 : decide (U ≤ 65536) = false := by simpa using h2
      have HR : Hid (Z = false) := by unfold Hid; rw [hZ]; simp [h2]
      clear hZ h
      go_enter Tryd.func37, Tryd.ntmps37
      go_wp2
      go_ret
      exact ⟨by rw [HR.out]; rfl, rfl⟩
  · have d1 : decide (8 ≤ U) = false := by simpa using h1
    have HR : Hid (Z = false) := by unfold Hid; rw [hZ]; simp [h1]
    clear hZ h
    go_enter Tryd.func37, Tryd.ntmps37
    go_wp2
    go_ret
    exact ⟨by rw [HR.out]; rfl, rfl⟩
/-- May a part stand there? -/
def plB (R S A : Int) : Bool := decide (S ≤ R) && decide (2147483648 ≤ A) && decide (A - 2147483648 ≤ R - S)
theorem ptV_eq (R : Int) (p : Pt) : ptV R p = (plB R (n64 p.s) (n64 p.a) && decide ((p.d.length : Int) ≤ n64 p.s)) := by
  unfold ptV plB n64
  congr 1
  · congr 2
    rw [decide_eq_decide]; omega
  · rw [decide_eq_decide]; omega
set_option maxHeartbeats 4000000 in
theorem place_c (R S A f : Int) (v : Value) (hR : 0 ≤ R ∧ R ≤ 65536) (hS : 0 ≤ S ∧ S < 18446744073709551616) (hA : 0 ≤ A ∧ A < 18446744073709551616) (w : World) : Calls Tryd.prog 38 #[.agg #[.int .u64 A, .int .u64 S, .int .i64 f, v], .int .i64 R] w fun e w' => e = .returned (.bool (plB R S A)) ∧ Below w.heap.size w w' := by
  obtain ⟨W0, hW0, r0, b0, s0⟩ := start1 w #[.int .u64 A, .int .u64 S, .int .i64 f, v] 46
  have c0 := r0.out.cell 0
  have c1 := r0.out.cell 1
  clear s0
  obtain ⟨Z, hZ⟩ : ∃ Z, Z = plB R S A := ⟨_, rfl⟩
  rw [← hZ]
  unfold plB at hZ
  have hw : IntKind.u64.wrap R = R := wrapU _ (by omega)
  by_cases h1 : S ≤ R
  · have d1 : decide (S ≤ R) = true := by simpa using h1
    have hw2 : IntKind.u64.wrap (R - S) = R - S := wrapU _ (by omega)
    by_cases h2 : 2147483648 ≤ A
    · have d2 : decide (2147483648 ≤ A) = true := by simpa using h2
      have hw3 : IntKind.u64.wrap (A - 2147483648) = A - 2147483648 := wrapU _ (by omega)
      by_cases h3 : A - 2147483648 ≤ R - S
      · have d3 : decide (A - 2147483648 ≤ R - S) = true := by simpa using h3
        have HR : Hid (Z = true) := by unfold Hid; rw [hZ, d1, d2, d3]; rfl
        clear hZ hR hS hA
        go_enter Tryd.func38, Tryd.ntmps38
        go_upto_region 1 with fail
        clear hW0
        go_wp2
        go_ret
        exact ⟨by rw [HR.out]; rfl, b0.out⟩
      · have d3 : decide (A - 2147483648 ≤ R - S) = false := by simpa using h3
        have HR : Hid (Z = false) := by unfold Hid; rw [hZ, d1, d2, d3]; rfl
        clear hZ hR hS hA
        go_enter Tryd.func38, Tryd.ntmps38
        go_upto_region 1 with fail
        clear hW0
        go_wp2
        go_ret
        exact ⟨by rw [HR.out]; rfl, b0.out⟩
    · have d2 : decide (2147483648 ≤ A) = false := by simpa using h2
      have HR : Hid (Z = false) := by unfold Hid; rw [hZ, d1, d2]; rfl
      clear hZ hR hS hA
      go_enter Tryd.func38, Tryd.ntmps38
      go_upto_region 1 with fail
      clear hW0
      go_wp2
      go_ret
      exact ⟨by rw [HR.out]; rfl, b0.out⟩
  · have d1 : decide (S ≤ R) = false := by simpa using h1
    have HR : Hid (Z = false) := by unfold Hid; rw [hZ, d1]; rfl
    clear hZ hR hS hA
    go_enter Tryd.func38, Tryd.ntmps38
    go_upto_region 1 with fail
    clear hW0
    go_wp2
    go_ret
    exact ⟨by rw [HR.out]; rfl, b0.out⟩
set_option maxHeartbeats 4000000 in
theorem inside_c (R S A : Int) (g : Nat) (hR : 0 ≤ R ∧ R ≤ 65536) (hS : 0 ≤ S ∧ S < 18446744073709551616) (hA : 0 ≤ A ∧ A < 18446744073709551616) (w : World) (c0 : w.cell? ⟨g, 0, none⟩ = some (.int .i64 R)) : Calls Tryd.prog 28 #[.pointer (some ⟨g, 0, none⟩), .int .u64 A, .int .u64 S] w fun e w' => e = .returned (.bool (plB R S A)) ∧ w' = w := by
  skip
  obtain ⟨Z, hZ⟩ : ∃ Z, Z = plB R S A := ⟨_, rfl⟩
  rw [← hZ]
  unfold plB at hZ
  have hw : IntKind.u64.wrap R = R := wrapU _ (by omega)
  by_cases h1 : S ≤ R
  · have d1 : decide (S ≤ R) = true := by simpa using h1
    have hw2 : IntKind.u64.wrap (R - S) = R - S := wrapU _ (by omega)
    by_cases h2 : 2147483648 ≤ A
    · have d2 : decide (2147483648 ≤ A) = true := by simpa using h2
      have hw3 : IntKind.u64.wrap (A - 2147483648) = A - 2147483648 := wrapU _ (by omega)
      by_cases h3 : A - 2147483648 ≤ R - S
      · have d3 : decide (A - 2147483648 ≤ R - S) = true := by simpa using h3
        have HR : Hid (Z = true) := by unfold Hid; rw [hZ, d1, d2, d3]; rfl
        clear hZ hR hS hA
        go_enter Tryd.func28, Tryd.ntmps28
        go_wp2
        go_ret
        exact ⟨by rw [HR.out]; rfl, rfl⟩
      · have d3 : decide (A - 2147483648 ≤ R - S) = false := by simpa using h3
        have HR : Hid (Z = false) := by unfold Hid; rw [hZ, d1, d2, d3]; rfl
        clear hZ hR hS hA
        go_enter Tryd.func28, Tryd.ntmps28
        go_wp2
        go_ret
        exact ⟨by rw [HR.out]; rfl, rfl⟩
    · have d2 : decide (2147483648 ≤ A) = false := by simpa using h2
      have HR : Hid (Z = false) := by unfold Hid; rw [hZ, d1, d2]; rfl
      clear hZ hR hS hA
      go_enter Tryd.func28, Tryd.ntmps28
      go_wp2
      go_ret
      exact ⟨by rw [HR.out]; rfl, rfl⟩
  · have d1 : decide (S ≤ R) = false := by simpa using h1
    have HR : Hid (Z = false) := by unfold Hid; rw [hZ, d1]; rfl
    clear hZ hR hS hA
    go_enter Tryd.func28, Tryd.ntmps28
    go_wp2
    go_ret
    exact ⟨by rw [HR.out]; rfl, rfl⟩

set_option maxHeartbeats 8000000 in
theorem vdeck_c (r : Int) (K : Cp) (mt : BitVec 64) (ps : List Pt) (ws : List Wd) (v u : Value) (w : World) (hr : -9223372036854775808 ≤ r ∧ r ≤ 9223372036854775807) (hv : Pts w v ps) (hu : Wds w u ws) (hn : ps.length ≤ 140737488355328) (hm : ws.length ≤ 140737488355328)
    (hd : ∀ p ∈ ps, p.d.length ≤ 140737488355328) (hi : ∀ x ∈ ws, x.i.length ≤ 140737488355328) :
    Calls Tryd.prog 19 #[.agg (dkc r K mt v u)] w fun e w' => e = .returned (.bool (dkV ⟨r, K, mt, ps, ws⟩)) ∧ Below w.heap.size w w' := by
  obtain ⟨W0, hW0, r0, b0, s0⟩ := start1 w (dkc r K mt v u) 35
  have HV : Hid (Pts w v ps) := hv
  have HU : Hid (Wds w u ws) := hu
  have HL : Hid (∀ j, j < ps.length → (ps.getD j pt0).d.length ≤ 140737488355328) := fun j hj => hd _ (by rw [List.getD_eq_getElem?_getD, List.getElem?_eq_getElem hj]; exact List.getElem_mem hj)
  have HM : Hid (∀ j, j < ws.length → (ws.getD j wd0).i.length ≤ 140737488355328) := fun j hj => hi _ (by rw [List.getD_eq_getElem?_getD, List.getElem?_eq_getElem hj]; exact List.getElem_mem hj)
  obtain ⟨av, cv, rfl, hcv, _, _⟩ := hv
  obtain ⟨au, cu, rfl, hcu, _, _⟩ := hu
  obtain ⟨N, hN⟩ : ∃ N, N = ps.length := ⟨_, rfl⟩
  obtain ⟨M, hM⟩ : ∃ M, M = ws.length := ⟨_, rfl⟩
  obtain ⟨Z, hZ⟩ : ∃ Z, Z = dkV ⟨r, K, mt, ps, ws⟩ := ⟨_, rfl⟩
  rw [← hZ]
  unfold dkV at hZ
  simp only at hZ
  rw [← hN] at hn hcv hZ
  rw [← hM] at hm hcu hZ
  have HN : Hid (N = ps.length) := hN
  have HMM : Hid (M = ws.length) := hM
  have HZ : Hid (Z = (raV r && decide (N ≤ 16) && decide (M ≤ 4000) && ps.all (ptV r) && ws.all (fun w => decide (w.i.length ≤ 64)))) := hZ
  have c0 : W0.cell? ⟨w.heap.size, 0, none⟩ = some (.int .i64 r) := (r0.out.cell 0).trans (dkc_r ..)
  have c84 : W0.cell? ⟨w.heap.size, 84, none⟩ = some (.slice av N cv) := by rw [hN]; exact (r0.out.cell (83 + 1)).trans ((dkc_e ..).trans rfl)
  have c85 : W0.cell? ⟨w.heap.size, 85, none⟩ = some (.slice au M cu) := by rw [hM]; exact (r0.out.cell (83 + 2)).trans ((dkc_e ..).trans rfl)
  have HC : Hid (∀ w', Below W0.heap.size W0 w' → w'.cell? ⟨w.heap.size, 0, none⟩ = some (.int .i64 r) ∧ w'.cell? ⟨w.heap.size, 84, none⟩ = some (.slice av N cv) ∧ w'.cell? ⟨w.heap.size, 85, none⟩ = some (.slice au M cu)) := fun w' hb => ⟨(hb.cell (p := ⟨w.heap.size, 0, none⟩) (by show w.heap.size < _; omega)).trans c0, (hb.cell (p := ⟨w.heap.size, 84, none⟩) (by show w.heap.size < _; omega)).trans c84, (hb.cell (p := ⟨w.heap.size, 85, none⟩) (by show w.heap.size < _; omega)).trans c85⟩
  have HUR : Hid (0 ≤ IntKind.u64.wrap r ∧ IntKind.u64.wrap r < 18446744073709551616) := by
    have e : IntKind.u64.wrap r = r % 18446744073709551616 := by first | rfl | (unfold IntKind.wrap; simp [IntKind.signed, IntKind.bits])
    unfold Hid; rw [e]; omega
  have HRM : Hid (∀ w', Calls Tryd.prog 37 #[.int .u64 (IntKind.u64.wrap r)] w' fun e w'' => e = .returned (.bool (raV r)) ∧ w'' = w') := fun w' => by rw [← rmB_eq r hr]; exact ram_c _ HUR.out w'
  have HRR : Hid (raV r = true → 0 ≤ r ∧ r ≤ 65536) := fun h => by unfold raV at h; simp at h; omega
  generalize dkc r K mt (.slice av ps.length cv) (.slice au ws.length cu) = DC at hW0 ⊢
  clear hN hM hZ hr hd hi s0 r0
  rcases (by cases raV r <;> simp : raV r = false ∨ raV r = true) with hra | hra
  · rw [hra] at HRM HZ
    have HR : Hid (Z = false) := by unfold Hid; rw [HZ.out]; rfl
    clear HZ
    go_enter Tryd.func19, Tryd.ntmps19
    go_upto_region 1 with fail
    clear hW0
    go_wp2_with (go_at_call 37; refine (HRM.out _).mono ?_; rintro e w1 ⟨rfl, hw⟩; have hw2 := hw.symm; subst hw2)
    go_ret
    exact ⟨by rw [HR.out]; rfl, b0.out⟩
  rw [hra] at HRM HZ
  have HRQ : Hid (0 ≤ r ∧ r ≤ 65536) := HRR.out hra
  clear HRR hra
  by_cases h16 : N ≤ 16
  case neg =>
    have HR : Hid (Z = false) := by unfold Hid; rw [HZ.out, decide_eq_false h16]; rfl
    have g16 : (16 : Int) < (N : Int) := by omega
    clear HZ
    go_enter Tryd.func19, Tryd.ntmps19
    go_upto_region 1 with fail
    clear hW0
    go_wp2_with (go_at_call 37; refine (HRM.out _).mono ?_; rintro e w1 ⟨rfl, hw⟩; have hw2 := hw.symm; subst hw2)
    go_ret
    exact ⟨by rw [HR.out]; rfl, b0.out⟩
  by_cases h40 : M ≤ 4000
  case neg =>
    have HR : Hid (Z = false) := by unfold Hid; rw [HZ.out, decide_eq_false h40]; simp
    have g16 : ¬ (16 : Int) < (N : Int) := by omega
    have g40 : (4000 : Int) < (M : Int) := by omega
    clear HZ
    go_enter Tryd.func19, Tryd.ntmps19
    go_upto_region 1 with fail
    clear hW0
    go_wp2_with (go_at_call 37; refine (HRM.out _).mono ?_; rintro e w1 ⟨rfl, hw⟩; have hw2 := hw.symm; subst hw2)
    go_ret
    exact ⟨by rw [HR.out]; rfl, b0.out⟩
  have HZ2 : Hid (Z = (ps.all (ptV r) && ws.all (fun w => decide (w.i.length ≤ 64)))) := by unfold Hid; rw [HZ.out, decide_eq_true h16, decide_eq_true h40]; simp
  have g16 : ¬ (16 : Int) < (N : Int) := by omega
  have g40 : ¬ (4000 : Int) < (M : Int) := by omega
  clear HZ
  go_enter Tryd.func19, Tryd.ntmps19
  go_upto_region 1 with fail
  clear hW0
  go_upto_region 4 with (go_at_call 37; refine (HRM.out _).mono ?_; rintro e w1 ⟨rfl, hw⟩; have hw2 := hw.symm; subst hw2)
  --@U1
  go_loopw [4, 27] (fun _ i wr => ∃ k : Nat, k ≤ N ∧ i = .int .i64 k ∧ Hid ((ps.take k).all (ptV r) = true) ∧ Hid (Below W0.heap.size W0 wr)) (fun _ i _ => N - (intOf i).toNat)
  case atStart => exact ⟨0, Nat.zero_le _, rfl, rfl, Below.refl _ _⟩
  case round =>
    obtain ⟨k, hk, rfl, HA, HB⟩ := hrel
    obtain ⟨c0, c84, c85⟩ := HC.out wr HB.out
    by_cases hlt : k < N
    · have hltI : (k : Int) < N := by omega
      obtain ⟨g, off, cap2, e1, hc2, hg, hcs⟩ := HV.out.at k (by rw [← HN.out]; exact hlt)
      cases e1
      obtain ⟨uk, hck, hbk, hak⟩ := hcs k (by rw [← HN.out]; exact hlt)
      have HLK : Hid ((ps.getD k pt0).d.length ≤ 140737488355328) := HL.out k (by rw [← HN.out]; exact hlt)
      have HSUC : Hid ((ps.take (k + 1)).all (ptV r) = ptV r (ps.getD k pt0)) := by unfold Hid; rw [all_succ _ pt0 _ _ (by rw [← HN.out]; exact hlt), HA.out, Bool.true_and]
      have HMIS : Hid (ptV r (ps.getD k pt0) = false → Z = false) := fun h => by rw [HZ2.out, all_miss _ pt0 _ _ (by rw [← HN.out]; exact hlt) h]; rfl
      generalize ps.getD k pt0 = p at hck hbk hak HSUC HMIS HLK
      obtain ⟨ad, cd, rfl, _, _, _⟩ := hbk
      have HWR : Hid (Below w.heap.size w wr) := b0.out.trans (HB.out.mono b0.out.size)
      have HCK : Hid (∀ i y, (#[.int .u64 (n64 p.a), .int .u64 (n64 p.s), .int .i64 p.f, .slice ad p.d.length cd] : Array Value)[i]? = some y → wr.cell? ⟨g, off + k * 4 + i, none⟩ = some y) := fun i y h => (HWR.out.cell (p := ⟨g, off + k * 4 + i, none⟩) hg).trans (hck i y h)
      have HRS := n64_rng p.s
      have HRA := n64_rng p.a
      have HPL : Hid (∀ w', Calls Tryd.prog 38 #[.agg #[.int .u64 (n64 p.a), .int .u64 (n64 p.s), .int .i64 p.f, .slice ad p.d.length cd], .int .i64 r] w' fun e w'' => e = .returned (.bool (plB r (n64 p.s) (n64 p.a))) ∧ Below w'.heap.size w' w'') := fun w' => place_c r _ _ _ _ HRQ.out HRS HRA w'
      have HEQ : Hid (ptV r p = (plB r (n64 p.s) (n64 p.a) && decide ((p.d.length : Int) ≤ n64 p.s))) := ptV_eq r p
      generalize plB r (n64 p.s) (n64 p.a) = PB at HPL HEQ
      generalize p.d.length = L at *
      generalize n64 p.a = A at *
      generalize n64 p.s = S at *
      generalize p.f = F at *
      have hLL : (L : Int) ≤ 140737488355328 := by have := HLK.out; omega
      have hwL : IntKind.u64.wrap (L : Int) = L := wrapU _ (by omega)
      obtain ⟨WA, hWA, rA, bA, sA⟩ := start1 wr #[.int .u64 A, .int .u64 S, .int .i64 F, .slice ad L cd] 46
      have HBA : Hid (Below W0.heap.size W0 WA) := HB.out.trans (bA.out.mono HB.out.size)
      obtain ⟨d0, d84, d85⟩ := HC.out WA HBA.out
      have HCA : Hid (∀ i y, (#[.int .u64 A, .int .u64 S, .int .i64 F, .slice ad L cd] : Array Value)[i]? = some y → WA.cell? ⟨wr.heap.size, 0 + i, none⟩ = some y) := fun i y h => by rw [Nat.zero_add]; exact (rA.out.cell i).trans h
      have a1 := rA.out.cell 1
      have a3 := rA.out.cell 3
      have HKN : Hid (k + 1 ≤ N) := hlt
      clear hck hak hg hcs hc2 HLK
      go_upto_region 6 with (first
        | (refine wpList_allocZ1 (by rfl) 46 (by rfl) #[.int .u64 0, .int .u64 0, .int .i64 0, .slice none 0 0] zero_sg ?_)
        | (refine wpList_store_new (by rfl) 46 _ _ (by rfl) (by rfl) #[.int .u64 0, .int .u64 0, .int .i64 0, .slice none 0 0] #[.int .u64 A, .int .u64 S, .int .i64 F, .slice ad L cd] (by rfl) (by rfl) (info_sg _ _ _ _) (by rfl) (ones4 (by rfl) (by rfl) (by rfl) (by rfl)) ?_)
        | (refine wpList_load_agg (by rfl) 46 _ (by rfl) g (off + k * 4) (by rfl) #[.int .u64 A, .int .u64 S, .int .i64 F, .slice ad L cd] _ HCK.out Tryd.underlying46 (by rfl) (info_sg _ _ _ _) ?_))
      try rw [hWA]
      clear hWA
      have HWA : Hid (wr.heap.size < WA.heap.size) := by unfold Hid; rw [sA]; omega
      --@U2
      cases PB
      · have HF : Hid (Z = false) := HMIS.out (by rw [HEQ.out]; rfl)
        go_wp2_with (first
          | (go_at_call 38; refine (HPL.out _).mono ?_; rintro e wp ⟨rfl, hb⟩; have HBP : Hid (Below W0.heap.size W0 wp) := HBA.out.trans (hb.mono HBA.out.size); have b1 := (hb.cell (p := ⟨wr.heap.size, 1, none⟩) HWA.out).trans a1; have b3 := (hb.cell (p := ⟨wr.heap.size, 3, none⟩) HWA.out).trans a3; clear hb)
          | (refine wpList_load_agg (by rfl) 46 _ (by rfl) wr.heap.size 0 (by rfl) #[.int .u64 A, .int .u64 S, .int .i64 F, .slice ad L cd] _ HCA.out Tryd.underlying46 (by rfl) (info_sg _ _ _ _) ?_))
        go_ret
        exact ⟨by rw [HF.out]; rfl, b0.out.trans (HBP.out.mono b0.out.size)⟩
      · by_cases hLS : (L : Int) ≤ S
        · have HT : Hid ((ps.take (k + 1)).all (ptV r) = true) := by unfold Hid; rw [HSUC.out, HEQ.out, decide_eq_true hLS]; rfl
          have hLS2 : ¬ S < (L : Int) := by omega
          go_wp2_with (first
            | (go_at_call 38; refine (HPL.out _).mono ?_; rintro e wp ⟨rfl, hb⟩; have HBP : Hid (Below W0.heap.size W0 wp) := HBA.out.trans (hb.mono HBA.out.size); have b1 := (hb.cell (p := ⟨wr.heap.size, 1, none⟩) HWA.out).trans a1; have b3 := (hb.cell (p := ⟨wr.heap.size, 3, none⟩) HWA.out).trans a3; clear hb)
            | (refine wpList_load_agg (by rfl) 46 _ (by rfl) wr.heap.size 0 (by rfl) #[.int .u64 A, .int .u64 S, .int .i64 F, .slice ad L cd] _ HCA.out Tryd.underlying46 (by rfl) (info_sg _ _ _ _) ?_))
          go_roundw
          case rel => exact ⟨k + 1, HKN.out, by go_num, HT.out, HBP.out⟩
          case measure => have := HKN.out; simp [intOf]; omega
        · have HF : Hid (Z = false) := HMIS.out (by rw [HEQ.out, decide_eq_false hLS]; rfl)
          have hLS2 : S < (L : Int) := by omega
          go_wp2_with (first
            | (go_at_call 38; refine (HPL.out _).mono ?_; rintro e wp ⟨rfl, hb⟩; have HBP : Hid (Below W0.heap.size W0 wp) := HBA.out.trans (hb.mono HBA.out.size); have b1 := (hb.cell (p := ⟨wr.heap.size, 1, none⟩) HWA.out).trans a1; have b3 := (hb.cell (p := ⟨wr.heap.size, 3, none⟩) HWA.out).trans a3; clear hb)
            | (refine wpList_load_agg (by rfl) 46 _ (by rfl) wr.heap.size 0 (by rfl) #[.int .u64 A, .int .u64 S, .int .i64 F, .slice ad L cd] _ HCA.out Tryd.underlying46 (by rfl) (info_sg _ _ _ _) ?_))
          go_ret
          exact ⟨by rw [HF.out]; rfl, b0.out.trans (HBP.out.mono b0.out.size)⟩
    · have hke : k = N := by omega
      have HZ3 : Hid (Z = ws.all (fun w => decide (w.i.length ≤ 64))) := by unfold Hid; have h := HA.out; rw [hke, HN.out, List.take_length] at h; rw [HZ2.out, h, Bool.true_and]
      clear hke HA HV HL
      have HB1 : Hid (Below W0.heap.size W0 wr) := HB.out
      clear HB
      rename World => w7
      go_upto_region 10 with fail
      --@U5
      go_loopw [6, 49] (fun _ i wr => ∃ k : Nat, k ≤ M ∧ i = .int .i64 k ∧ Hid ((ws.take k).all (fun w => decide (w.i.length ≤ 64)) = true) ∧ Hid (Below W0.heap.size W0 wr)) (fun _ i _ => M - (intOf i).toNat)
      case atStart => exact ⟨0, Nat.zero_le _, rfl, rfl, HB1.out⟩
      case round =>
        obtain ⟨q, hq, rfl, HA, HB⟩ := hrel
        clear HB1 c0 c84 c85
        by_cases hlt : q < M
        · have hltI : (q : Int) < M := by omega
          obtain ⟨g, off, cap2, e1, hc2, hg, hcs⟩ := HU.out.at q (by rw [← HMM.out]; exact hlt)
          cases e1
          obtain ⟨uk, hck, hbk, hak⟩ := hcs q (by rw [← HMM.out]; exact hlt)
          have HLK : Hid ((ws.getD q wd0).i.length ≤ 140737488355328) := HM.out q (by rw [← HMM.out]; exact hlt)
          have HSUC : Hid ((ws.take (q + 1)).all (fun w => decide (w.i.length ≤ 64)) = decide ((ws.getD q wd0).i.length ≤ 64)) := by unfold Hid; rw [all_succ _ wd0 _ _ (by rw [← HMM.out]; exact hlt), HA.out, Bool.true_and]
          have HMIS : Hid (decide ((ws.getD q wd0).i.length ≤ 64) = false → Z = false) := fun h => by rw [HZ3.out, all_miss _ wd0 _ _ (by rw [← HMM.out]; exact hlt) h]
          generalize ws.getD q wd0 = p at hck hbk hak HSUC HMIS HLK
          obtain ⟨ad, cd, rfl, _, _, _⟩ := hbk
          have HWR : Hid (Below w.heap.size w wr) := b0.out.trans (HB.out.mono b0.out.size)
          have HCK : Hid (∀ i y, (#[.bool p.t, .bool p.e, .bool p.s, .slice ad p.i.length cd] : Array Value)[i]? = some y → wr.cell? ⟨g, off + q * 4 + i, none⟩ = some y) := fun i y h => (HWR.out.cell (p := ⟨g, off + q * 4 + i, none⟩) hg).trans (hck i y h)
          generalize p.i.length = L at *
          generalize p.t = x1 at *
          generalize p.e = x2 at *
          generalize p.s = x3 at *
          have hLL : L ≤ 140737488355328 := HLK.out
          obtain ⟨WA, hWA, rA, bA, sA⟩ := start1 wr #[.bool x1, .bool x2, .bool x3, .slice ad L cd] 48
          have HBA : Hid (Below W0.heap.size W0 WA) := HB.out.trans (bA.out.mono HB.out.size)
          have a3 := rA.out.cell 3
          have HKN : Hid (q + 1 ≤ M) := hlt
          clear hck hak hg hcs hc2 HLK
          go_upto_region 12 with (first
            | (refine wpList_allocZ1 (by rfl) 48 (by rfl) #[.bool false, .bool false, .bool false, .slice none 0 0] zero_wd ?_)
            | (refine wpList_store_new (by rfl) 48 _ _ (by rfl) (by rfl) #[.bool false, .bool false, .bool false, .slice none 0 0] #[.bool x1, .bool x2, .bool x3, .slice ad L cd] (by rfl) (by rfl) (info_wd _ _ _ _) (by rfl) (ones4 (by rfl) (by rfl) (by rfl) (by rfl)) ?_)
            | (refine wpList_load_agg (by rfl) 48 _ (by rfl) g (off + q * 4) (by rfl) #[.bool x1, .bool x2, .bool x3, .slice ad L cd] _ HCK.out Tryd.underlying48 (by rfl) (info_wd _ _ _ _) ?_))
          try rw [hWA]
          clear hWA
          by_cases hLS : L ≤ 64
          · have HT : Hid ((ws.take (q + 1)).all (fun w => decide (w.i.length ≤ 64)) = true) := by unfold Hid; rw [HSUC.out, decide_eq_true hLS]
            have hLS2 : ¬ (64 : Int) < (L : Int) := by omega
            go_wp2
            go_roundw
            case rel => exact ⟨q + 1, HKN.out, by go_num, HT.out, HBA.out⟩
            case measure => have := HKN.out; simp [intOf]; omega
          · have HF : Hid (Z = false) := HMIS.out (decide_eq_false hLS)
            have hLS2 : (64 : Int) < (L : Int) := by omega
            go_wp2
            go_ret
            exact ⟨by rw [HF.out]; rfl, b0.out.trans (HBA.out.mono b0.out.size)⟩
        · have hqe : q = M := by omega
          have HF : Hid (Z = true) := by unfold Hid; have h := HA.out; rw [hqe, HMM.out, List.take_length] at h; rw [HZ3.out, h]
          go_wp2
          go_ret
          exact ⟨by rw [HF.out]; rfl, b0.out.trans (HB.out.mono b0.out.size)⟩

end Go.Proofs.YthmjimmmkoeeoaaDoor
