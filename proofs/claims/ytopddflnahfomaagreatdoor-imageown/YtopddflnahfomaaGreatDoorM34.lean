/-
  Ipe.
-/
import Derived.Test.YtopddflnahfomaaGreatDoorM31
namespace Go.Proofs.YtopddflnahfomaaGreatDoor
set_option linter.unusedVariables false
open Go.ChangeShapes Go.WideShapes Go.ChangeAt Go.RowKit Go.Deep
/-- The places of a plan. -/
def PV (L : List Sg) (N : List Sy) (t1 t2 t3 t4 : Int) : Prop :=
  if N.length = 0 then t1 = 0 ∧ t2 = 0 ∧ t3 = 0 ∧ t4 = 0
  else t1 = (tabAt L : Nat) ∧ t2 = (tabAt L + 24 + 24 * N.length : Nat) ∧ t3 = (tabAt L + 24 + 24 * N.length + 1 + nk N N.length : Nat) ∧ t4 = (al (tabAt L + 24 + 24 * N.length + 1 + nk N N.length + 27) : Nat)
set_option maxHeartbeats 4000000 in
theorem plan_d (E : BitVec 64) (vs vn : Value) (L : List Sg) (N : List Sy) (hL : L.length ≤ 16) (hN : N.length ≤ 400) (w : World) (hi : Img w vs vn L N) :
    Calls Tryz.prog 13 #[.agg #[.int .u64 (n64 E), vs, vn]] w fun e w' => ∃ dv t1 t2 t3 t4, e = .returned (.agg #[dv, .int .i64 t1, .int .i64 t2, .int .i64 t3, .int .i64 t4, .int .i64 ((szz L N : Nat) : Int)]) ∧ Hid (w'.ownsRow w.heap.size 3 1 dv L.length (iv (pls L L.length))) ∧ Below w.heap.size w w' ∧ PV L N t1 t2 t3 t4 := by
  have HI : Hid (Img w vs vn L N) := hi
  obtain ⟨B, hB⟩ : ∃ B, B = w.heap.size := ⟨_, rfl⟩
  have HB0 : Hid (B = w.heap.size) := hB
  clear hB
  obtain ⟨sa, sc, rfl, _, _⟩ := hi.segs
  obtain ⟨na, nc, rfl, _, _⟩ := hi.syms
  clear hi
  go_enter Tryz.func13, Tryz.ntmps13
  go_wp2
  have HM1 : Hid ((((w.alloc (.cells #[.int .u64 (n64 E), .slice sa L.length sc, .slice na N.length nc] 26)).alloc (.cells #[.slice none 0 0, .int .i64 0, .int .i64 0, .int .i64 0, .int .i64 0, .int .i64 0] 50)).alloc (.cells #[.slice none 0 0, .int .i64 0, .int .i64 0, .int .i64 0, .int .i64 0, .int .i64 (64 + 56 * (L.length : Int))] 50)).cell? ⟨w.heap.size, 1, none⟩ = some (.slice sa L.length sc)) := by unfold Hid; rw [alloc3_0]; rfl
  have HM2 : Hid ((((w.alloc (.cells #[.int .u64 (n64 E), .slice sa L.length sc, .slice na N.length nc] 26)).alloc (.cells #[.slice none 0 0, .int .i64 0, .int .i64 0, .int .i64 0, .int .i64 0, .int .i64 0] 50)).alloc (.cells #[.slice none 0 0, .int .i64 0, .int .i64 0, .int .i64 0, .int .i64 0, .int .i64 (64 + 56 * (L.length : Int))] 50)).cell? ⟨w.heap.size, 2, none⟩ = some (.slice na N.length nc)) := by unfold Hid; rw [alloc3_0]; rfl
  have HRb : Hid ((((w.alloc (.cells #[.int .u64 (n64 E), .slice sa L.length sc, .slice na N.length nc] 26)).alloc (.cells #[.slice none 0 0, .int .i64 0, .int .i64 0, .int .i64 0, .int .i64 0, .int .i64 0] 50)).alloc (.cells #[.slice none 0 0, .int .i64 0, .int .i64 0, .int .i64 0, .int .i64 0, .int .i64 (64 + 56 * (L.length : Int))] 50)).heap[w.heap.size + 1]? = some (.cells #[Value.slice none 0 0, .int .i64 0, .int .i64 0, .int .i64 0, .int .i64 0, .int .i64 0] 50 (0, 0))) := by
    unfold Hid; rw [Below.heap_alloc _ _ _ (by simp)]; exact (heap_alloc_new (w.alloc (.cells #[.int .u64 (n64 E), .slice sa L.length sc, .slice na N.length nc] 26)) _ |> fun h => by simpa using h)
  have HP0 : Hid (PL L 0 (w.heap.size + 1 + 1) (.slice none 0 0) (((w.alloc (.cells #[.int .u64 (n64 E), .slice sa L.length sc, .slice na N.length nc] 26)).alloc (.cells #[.slice none 0 0, .int .i64 0, .int .i64 0, .int .i64 0, .int .i64 0, .int .i64 0] 50)).alloc (.cells #[.slice none 0 0, .int .i64 0, .int .i64 0, .int .i64 0, .int .i64 0, .int .i64 (64 + 56 * (L.length : Int))] 50)) (((w.alloc (.cells #[.int .u64 (n64 E), .slice sa L.length sc, .slice na N.length nc] 26)).alloc (.cells #[.slice none 0 0, .int .i64 0, .int .i64 0, .int .i64 0, .int .i64 0, .int .i64 0] 50)).alloc (.cells #[.slice none 0 0, .int .i64 0, .int .i64 0, .int .i64 0, .int .i64 0, .int .i64 (64 + 56 * (L.length : Int))] 50))) := by
    refine ⟨?_, World.ownsRow_nil _ _ _ _, Below.refl _ _⟩
    have e : ((sk L 0 : Nat) : Int) = 64 + 56 * (L.length : Int) := by show ((64 + 56 * L.length : Nat) : Int) = _; omega
    rw [e]
    exact (heap_alloc_new ((w.alloc (.cells #[.int .u64 (n64 E), .slice sa L.length sc, .slice na N.length nc] 26)).alloc (.cells #[.slice none 0 0, .int .i64 0, .int .i64 0, .int .i64 0, .int .i64 0, .int .i64 0] 50)) _ |> fun h => by simpa using h)
  have HB1 : Hid (Below B w (((w.alloc (.cells #[.int .u64 (n64 E), .slice sa L.length sc, .slice na N.length nc] 26)).alloc (.cells #[.slice none 0 0, .int .i64 0, .int .i64 0, .int .i64 0, .int .i64 0, .int .i64 0] 50)).alloc (.cells #[.slice none 0 0, .int .i64 0, .int .i64 0, .int .i64 0, .int .i64 0, .int .i64 (64 + 56 * (L.length : Int))] 50))) := (((Below.refl _ _).alloc (by rw [HB0.out]; exact Nat.le_refl _) _).alloc (by rw [HB0.out]; simp) _).alloc (by rw [HB0.out]; simp; omega) _
  generalize (((w.alloc (.cells #[.int .u64 (n64 E), .slice sa L.length sc, .slice na N.length nc] 26)).alloc (.cells #[.slice none 0 0, .int .i64 0, .int .i64 0, .int .i64 0, .int .i64 0, .int .i64 0] 50)).alloc (.cells #[.slice none 0 0, .int .i64 0, .int .i64 0, .int .i64 0, .int .i64 0, .int .i64 (64 + 56 * (L.length : Int))] 50)) = W1 at *
  obtain ⟨Mb, hMb⟩ : ∃ Mb, Mb = w.heap.size := ⟨_, rfl⟩
  obtain ⟨Rb, hRb⟩ : ∃ Rb, Rb = w.heap.size + 1 := ⟨_, rfl⟩
  obtain ⟨Pb, hPb⟩ : ∃ Pb, Pb = w.heap.size + 1 + 1 := ⟨_, rfl⟩
  rw [← hPb] at HP0 ⊢
  rw [← hRb] at HRb ⊢
  rw [← hMb] at HM1 HM2 ⊢
  have HN3 : Hid (Mb = B ∧ Rb = B + 1 ∧ Pb = B + 2) := by have := HB0.out; exact ⟨by omega, by omega, by omega⟩
  clear hMb hRb hPb
  go_loopw [18] (fun i wr => ∃ k : Nat, k ≤ L.length ∧ i = .int .i64 k ∧ ∃ dv, Hid (PL L k Pb dv W1 wr)) (fun i _ => L.length - (intOf i).toNat)
  case atStart => exact ⟨0, Nat.zero_le _, rfl, _, HP0⟩
  case round =>
    obtain ⟨k, hk, rfl, dv, hp⟩ := hrel
    clear HP0
    have hsk := sk_le _ HI.out.lens k hk
    have HBw : Hid (Below B w wr) := HB1.out.trans (hp.out.below.mono (by have := HN3.out; omega))
    obtain ⟨S, hS⟩ : ∃ S, S = sk L k := ⟨_, rfl⟩
    rw [← hS] at hsk
    have HS : Hid (S = sk L k) := hS
    clear hS
    have hS2 : S ≤ 3000000000000000 := by omega
    have p0 : wr.cell? ⟨Pb, 0, none⟩ = some dv := hp.out.cell 0
    have p5 : wr.cell? ⟨Pb, 5, none⟩ = some (.int .i64 (S : Int)) := by rw [HS.out]; exact hp.out.cell 5
    have f0 := hp.out.frozen 0
    have f5 := hp.out.frozen 5
    have HPs : Hid (Pb < wr.heap.size) := hp.out.lt
    clear hsk
    by_cases hlt : k < L.length
    · have hlt2 : (k : Int) < (L.length : Int) := by omega
      have hn := HI.out.lens k hlt
      obtain ⟨_, _, he, _, hcc⟩ := HI.out.segs.later HBw.out HB0.out
      cases he
      obtain ⟨g, off, rfl, hg, hcells⟩ := hcc (by intro e; have := congrArg List.length e; simp only [List.length_nil] at this; omega)
      obtain ⟨c0, c1, c2, c3⟩ := hcells k hlt
      clear hcells hcc
      obtain ⟨x, hx⟩ : ∃ x, x = sg L k := ⟨_, rfl⟩
      rw [← hx] at c0 c1 c2 c3 hn
      have HX : Hid (x = sg L k) := hx
      clear hx
      have hpb : Pb ≠ wr.heap.size := by have := HPs.out; omega
      by_cases hn0 : 0 < x.n
      · have hn0' : (0 : Int) < (x.n : Int) := by omega
        have HK : Hid (sk L (k + 1) = al S + x.n) := by unfold Hid; rw [show sk L (k + 1) = if 0 < (sg L k).n then al (sk L k) + (sg L k).n else sk L k from rfl, ← HX.out, if_pos hn0, HS.out]
        have HPL : Hid (pls L (k + 1) = pls L k ++ [((al S : Nat) : Int)]) := by unfold Hid; rw [show pls L (k + 1) = pls L k ++ [if 0 < (sg L k).n then ((al (sk L k) : Nat) : Int) else 0] from rfl, ← HX.out, if_pos hn0, HS.out]
        have ha := al_hi S
        obtain ⟨A, hA⟩ : ∃ A, A = al S := ⟨_, rfl⟩
        have cA : Hid (∀ w', Calls Tryz.prog 25 #[.int .i64 (S : Int)] w' fun e w'' => e = .returned (.int .i64 (A : Int)) ∧ w' = w'') := fun w' => by rw [hA]; exact (aligned_c S (by omega) w').mono fun _ _ ⟨h1, h2⟩ => ⟨h1, h2.symm⟩
        rw [← hA] at ha HK HPL
        clear hA hn0
        have q5 : ∀ o, (wr.alloc o).cell? ⟨Pb, 5, none⟩ = some (.int .i64 (S : Int)) := fun o => by rw [World.cell?_alloc_past _ _ _ HPs.out]; exact p5
        have r5 : ∀ o, (wr.alloc o).frozen? ⟨Pb, 5, none⟩ = false := fun o => frozen_of_row _ Pb 5 _ 50 (blk_alloc hp.out.blk o)
        have q0 : ∀ v o, ((wr.alloc o).setCell ⟨Pb, 5, none⟩ v).cell? ⟨Pb, 0, none⟩ = some dv := fun v o => cell_of_row _ Pb 0 _ 50 (0, 0) (hp.out.set5 o v)
        have HPs2 : Hid (Pb + 1 ≤ ((wr.alloc (.cells #[.int .u64 (n64 x.a), .int .u64 (n64 x.s), .int .i64 x.f, .slice x.m x.n x.c] 42)).setCell ⟨Pb, 5, none⟩ (.int .i64 ((A : Int) + (x.n : Int)))).heap.size) := by unfold Hid; have := HPs.out; simp [World.setCell]; omega
        clear p0 p5 f0 f5
        go_wp2_with (first | (go_at_call 25; refine (cA.out _).mono ?_; rintro e w' ⟨rfl, rfl⟩) | (at_builtin; refine appP (by rfl) _ _ (by rfl) (Pb + 1) Pb _ _ (pls L k) _ (by rfl) (hp.out.set5 _ _) (by omega) (hp.out.own5 _ _) _ (by rfl) (by simp [World.setCell]) (by rw [pls_length]; omega) HPs2.out ?_; intro g' cap' w' hown' hP' hc' hf' hb'))
        have HN : Hid (PL L (k + 1) Pb (.slice (some ⟨g', 0, none⟩) ((pls L k).length + 1) cap') W1 (w'.setCell ⟨Pb, 0, none⟩ (.slice (some ⟨g', 0, none⟩) ((pls L k).length + 1) cap'))) := by
          refine PL.next (hp.out.bel5 _ _) hP' ?_ ?_ hb'
          · rw [HK.out]; rfl
          · rw [← HPL.out, pls_length L (k + 1)] at hown'; exact hown'
        clear hown' hP' hb'
        go_roundw
        case rel => exact ⟨k + 1, by omega, by go_num, _, HN⟩
        case measure => simp [intOf]; omega
      · have hn0' : ¬ (0 : Int) < (x.n : Int) := by omega
        have HK : Hid (sk L (k + 1) = S) := by unfold Hid; rw [show sk L (k + 1) = if 0 < (sg L k).n then al (sk L k) + (sg L k).n else sk L k from rfl, ← HX.out, if_neg hn0, HS.out]
        have HPL : Hid (pls L (k + 1) = pls L k ++ [0]) := by unfold Hid; rw [show pls L (k + 1) = pls L k ++ [if 0 < (sg L k).n then ((al (sk L k) : Nat) : Int) else 0] from rfl, ← HX.out, if_neg hn0]
        clear hn0
        have q0 : ∀ o, (wr.alloc o).cell? ⟨Pb, 0, none⟩ = some dv := fun o => by rw [World.cell?_alloc_past _ _ _ HPs.out]; exact p0
        have HPs2 : Hid (Pb + 1 ≤ (wr.alloc (.cells #[.int .u64 (n64 x.a), .int .u64 (n64 x.s), .int .i64 x.f, .slice x.m x.n x.c] 42)).heap.size) := by unfold Hid; have := HPs.out; simp; omega
        clear p0 p5 f0 f5
        go_wp2_with (at_builtin; refine appP (by rfl) _ _ (by rfl) (Pb + 1) Pb _ _ (pls L k) _ (by rfl) (blk_alloc hp.out.blk _) (by omega) (hp.out.own0 _) _ (by rfl) (by simp) (by rw [pls_length]; omega) HPs2.out ?_; intro g' cap' w' hown' hP' hc' hf' hb')
        have HN : Hid (PL L (k + 1) Pb (.slice (some ⟨g', 0, none⟩) ((pls L k).length + 1) cap') W1 (w'.setCell ⟨Pb, 0, none⟩ (.slice (some ⟨g', 0, none⟩) ((pls L k).length + 1) cap'))) := by
          refine PL.next (hp.out.below.alloc (Nat.le_of_lt HPs.out) _) hP' ?_ ?_ hb'
          · rw [HK.out, HS.out]; rfl
          · rw [← HPL.out, pls_length L (k + 1)] at hown'; exact hown'
        clear hown' hP' hb'
        go_roundw
        case rel => exact ⟨k + 1, by omega, by go_num, _, HN⟩
        case measure => simp [intOf]; omega
    · have hkl : k = L.length := by omega
      have hle : (L.length : Int) ≤ (k : Int) := by omega
      have HSL : Hid (S = sk L L.length) := by rw [← hkl]; exact HS
      have HOW : Hid (wr.ownsRow (Pb + 1) 3 1 dv L.length (iv (pls L L.length))) := by rw [← hkl]; exact hp.out.own
      obtain ⟨da, dc, hdv⟩ : ∃ da dc, dv = .slice da L.length dc := by
        rcases Go.Joins.ownsRow_forms HOW.out with ⟨h1, h2⟩ | ⟨g', c', h1⟩
        · exact ⟨none, 0, by rw [h1, h2]⟩
        · exact ⟨_, _, h1⟩
      subst hdv
      have p1 : wr.cell? ⟨Pb, 1, none⟩ = some (.int .i64 0) := hp.out.cell 1
      have p2 : wr.cell? ⟨Pb, 2, none⟩ = some (.int .i64 0) := hp.out.cell 2
      have p3 : wr.cell? ⟨Pb, 3, none⟩ = some (.int .i64 0) := hp.out.cell 3
      have p4 : wr.cell? ⟨Pb, 4, none⟩ = some (.int .i64 0) := hp.out.cell 4
      have hRP : Rb < Pb := by have := HN3.out; omega
      have hRn : Rb ≠ Pb := by omega
      have hRw : wr.heap[Rb]? = some (.cells #[Value.slice none 0 0, .int .i64 0, .int .i64 0, .int .i64 0, .int .i64 0, .int .i64 0] 50 (0, 0)) := by rw [hp.out.below.block Rb hRP]; exact HRb.out
      have HRw : Hid (wr.heap[Rb]? = some (.cells #[Value.slice none 0 0, .int .i64 0, .int .i64 0, .int .i64 0, .int .i64 0, .int .i64 0] 50 (0, 0))) := hRw
      have m2 : wr.cell? ⟨Mb, 2, none⟩ = some (.slice na N.length nc) := by rw [hp.out.below.cell (show Mb < Pb by have := HN3.out; omega)]; exact HM2.out
      clear hkl hlt hRw
      by_cases hN0 : N.length = 0
      · have hN0' : ((N.length : Int) == 0) = true := by rw [hN0]; rfl
        have HZ : Hid (szz L N = S) := by unfold Hid szz; rw [if_pos hN0, HSL.out]
        have r0 : wr.cell? ⟨Rb, 0, none⟩ = some (.slice none 0 0) := cell_of_row wr Rb 0 _ 50 (0, 0) HRw.out
        have r1 : wr.cell? ⟨Rb, 1, none⟩ = some (.int .i64 0) := cell_of_row wr Rb 1 _ 50 (0, 0) HRw.out
        have r2 : wr.cell? ⟨Rb, 2, none⟩ = some (.int .i64 0) := cell_of_row wr Rb 2 _ 50 (0, 0) HRw.out
        have r3 : wr.cell? ⟨Rb, 3, none⟩ = some (.int .i64 0) := cell_of_row wr Rb 3 _ 50 (0, 0) HRw.out
        have r4 : wr.cell? ⟨Rb, 4, none⟩ = some (.int .i64 0) := cell_of_row wr Rb 4 _ 50 (0, 0) HRw.out
        have r5 : wr.cell? ⟨Rb, 5, none⟩ = some (.int .i64 0) := cell_of_row wr Rb 5 _ 50 (0, 0) HRw.out
        have z0 := frozen_of_row wr Rb 0 _ 50 HRw.out
        have z1 := frozen_of_row wr Rb 1 _ 50 HRw.out
        have z2 := frozen_of_row wr Rb 2 _ 50 HRw.out
        have z3 := frozen_of_row wr Rb 3 _ 50 HRw.out
        have z4 := frozen_of_row wr Rb 4 _ 50 HRw.out
        have z5 := frozen_of_row wr Rb 5 _ 50 HRw.out
        have hN0'' := hN0
        clear hN0
        go_wp2
        have hB := HB0.out
        have hPB := HN3.out
        exact bodyPost_ret (v := .agg #[.slice da L.length dc, .int .i64 0, .int .i64 0, .int .i64 0, .int .i64 0, .int .i64 (S : Int)]) (results_cell_row Tryz.results13 _ _ Rb 50 _ (0, 0) _ (by rfl) (set6_blk HRw.out _ _ _ _ _ _) Tryz.underlying50 (by rfl) size46) rfl
          ⟨_, 0, 0, 0, 0, by rw [HZ.out], own_leB (set6_own HOW.out (by omega) _ _ _ _ _ _) (by omega), set6_below (by rw [← hB]; exact HBw.out) (by omega) _ _ _ _ _ _, by unfold PV; rw [if_pos hN0'']; exact ⟨rfl, rfl, rfl, rfl⟩⟩
      · have hN0' : ((N.length : Int) == 0) = false := by simp; intro h; apply hN0; rw [h]; rfl
        have HN0 : Hid (¬ N.length = 0) := hN0
        have f1 := hp.out.frozen 1
        have f2 := hp.out.frozen 2
        have f3 := hp.out.frozen 3
        have ha := al_hi S
        obtain ⟨A, hA⟩ : ∃ A, A = al S := ⟨_, rfl⟩
        have cA : Hid (∀ w', Calls Tryz.prog 25 #[.int .i64 (S : Int)] w' fun e w'' => e = .returned (.int .i64 (A : Int)) ∧ w' = w'') := fun w' => by rw [hA]; exact (aligned_c S (by omega) w').mono fun _ _ ⟨h1, h2⟩ => ⟨h1, h2.symm⟩
        rw [← hA] at ha
        have HAA : Hid (A = al S) := hA
        clear hA hN0
        have hMP : Mb ≠ Pb := by have := HN3.out; omega
        have m3 : ∀ a b c, (((wr.setCell ⟨Pb, 1, none⟩ a).setCell ⟨Pb, 2, none⟩ b).setCell ⟨Pb, 3, none⟩ c).cell? ⟨Mb, 2, none⟩ = some (.slice na N.length nc) := fun a b c => by
          rw [World.cell?_setCell_other _ _ _ _ (by intro e; cases e <;> exact hMP rfl), World.cell?_setCell_other _ _ _ _ (by intro e; cases e <;> exact hMP rfl), World.cell?_setCell_other _ _ _ _ (by intro e; cases e <;> exact hMP rfl)]; exact m2
        go_wp2_with (go_at_call 25; refine (cA.out _).mono ?_; rintro e w' ⟨rfl, rfl⟩)
        have HQ0 : Hid (PQ (.slice da L.length dc) (.int .i64 (A : Int)) (.int .i64 ((A : Int) + 24 * (1 + (N.length : Int)))) (.int .i64 ((A : Int) + 24 * (1 + (N.length : Int)) + 1)) (.int .i64 0) (.int .i64 (S : Int)) Pb L.length (iv (pls L L.length)) W1 (((wr.setCell ⟨Pb, 1, none⟩ (.int .i64 (A : Int))).setCell ⟨Pb, 2, none⟩ (.int .i64 ((A : Int) + 24 * (1 + (N.length : Int))))).setCell ⟨Pb, 3, none⟩ (.int .i64 ((A : Int) + 24 * (1 + (N.length : Int)) + 1)))) := by
          have h0 : PQ (.slice da L.length dc) (.int .i64 0) (.int .i64 0) (.int .i64 0) (.int .i64 0) (.int .i64 (S : Int)) Pb L.length (iv (pls L L.length)) W1 wr := ⟨by rw [HS.out]; exact hp.out.blk, HOW.out, hp.out.below⟩
          exact ((h0.set1 _).set2 _).set3 _
        clear p0 p1 p2 p3 p4 p5 f0 f1 f2 f3 f5 m2 m3 hp HOW HRw HBw HPs
        generalize ((wr.setCell ⟨Pb, 1, none⟩ (.int .i64 (A : Int))).setCell ⟨Pb, 2, none⟩ (.int .i64 ((A : Int) + 24 * (1 + (N.length : Int))))).setCell ⟨Pb, 3, none⟩ (.int .i64 ((A : Int) + 24 * (1 + (N.length : Int)) + 1)) = W2 at *
        have hA2 : A ≤ 3000000000000007 := by omega
        go_loopw [67] (fun i wr => ∃ q : Nat, q ≤ N.length ∧ i = .int .i64 q ∧ Hid (PQ (.slice da L.length dc) (.int .i64 (A : Int)) (.int .i64 ((A : Int) + 24 * (1 + (N.length : Int)))) (.int .i64 ((A : Int) + 24 * (1 + (N.length : Int)) + 1 + ((nk N q : Nat) : Int))) (.int .i64 0) (.int .i64 (S : Int)) Pb L.length (iv (pls L L.length)) W1 wr)) (fun i _ => N.length - (intOf i).toNat)
        case atStart => exact ⟨0, Nat.zero_le _, rfl, by have := HQ0.out; unfold Hid; simpa [nk] using this⟩
        case round =>
          obtain ⟨q, hq, rfl, hpq⟩ := hrel
          clear HQ0
          have hnk := nk_le _ HI.out.texts q hq
          have HBw : Hid (Below B w wr) := HB1.out.trans (hpq.out.below.mono (by have := HN3.out; omega))
          obtain ⟨T, hT⟩ : ∃ T, T = nk N q := ⟨_, rfl⟩
          rw [← hT] at hnk hpq
          have HTT : Hid (T = nk N q) := hT
          clear hT
          have hT2 : T ≤ 60000000000000000 := by omega
          clear hnk
          by_cases hlt : q < N.length
          · have hlt2 : (q : Int) < (N.length : Int) := by omega
            have hn := HI.out.texts q hlt
            obtain ⟨_, _, he, _, hcc⟩ := HI.out.syms.later HBw.out HB0.out
            cases he
            obtain ⟨g, off, rfl, hg, hcells⟩ := hcc (by intro e; have := congrArg List.length e; simp only [List.length_nil] at this; omega)
            obtain ⟨c0, c1⟩ := hcells q hlt
            clear hcells hcc
            obtain ⟨y, hy⟩ : ∃ y, y = sy N q := ⟨_, rfl⟩
            rw [← hy] at c0 c1 hn
            have HY : Hid (nk N (q + 1) = T + (y.s.size + 1)) := by unfold Hid; rw [HTT.out, hy]; rfl
            clear hy
            have q3 : ∀ o, (wr.alloc o).cell? ⟨Pb, 3, none⟩ = some (.int .i64 ((A : Int) + 24 * (1 + (N.length : Int)) + 1 + (T : Int))) := fun o => (hpq.out.alloc o).cell 3
            have r3 : ∀ o, (wr.alloc o).frozen? ⟨Pb, 3, none⟩ = false := fun o => (hpq.out.alloc o).frozen 3
            have HNX : Hid (PQ (.slice da L.length dc) (.int .i64 (A : Int)) (.int .i64 ((A : Int) + 24 * (1 + (N.length : Int)))) (.int .i64 ((A : Int) + 24 * (1 + (N.length : Int)) + 1 + (T : Int) + ((y.s.size : Int) + 1))) (.int .i64 0) (.int .i64 (S : Int)) Pb L.length (iv (pls L L.length)) W1 ((wr.alloc (.cells #[.string y.s, .int .u64 (n64 y.v)] 45)).setCell ⟨Pb, 3, none⟩ (.int .i64 ((A : Int) + 24 * (1 + (N.length : Int)) + 1 + (T : Int) + ((y.s.size : Int) + 1))))) := (hpq.out.alloc _).set3 _
            have hne3 : Pb ≠ wr.heap.size := by have := hpq.out.lt; omega
            go_wp2
            go_roundw
            case rel =>
              refine ⟨q + 1, by omega, by go_num, ?_⟩
              have := HNX.out
              rw [HY.out]
              rw [show ((A : Int) + 24 * (1 + (N.length : Int)) + 1 + ((T + (y.s.size + 1) : Nat) : Int)) = (A : Int) + 24 * (1 + (N.length : Int)) + 1 + (T : Int) + ((y.s.size : Int) + 1) by omega]
              exact this
            case measure => simp [intOf]; omega
          · have hqn : q = N.length := by omega
            have hle2 : (N.length : Int) ≤ (q : Int) := by omega
            have HZ : Hid (szz L N = al (A + 24 + 24 * N.length + 1 + T + 27) + 256) := by
              unfold Hid szz tabAt; rw [if_neg HN0.out, HAA.out, HSL.out, HTT.out, hqn]
            have HTN : Hid (T = nk N N.length) := by unfold Hid; rw [HTT.out, hqn]
            clear hqn hlt
            obtain ⟨U, hU⟩ : ∃ U, U = A + 24 + 24 * N.length + 1 + T + 27 := ⟨_, rfl⟩
            have hUi : ((A : Int) + 24 * (1 + (N.length : Int)) + 1 + (T : Int) + 27) = (U : Int) := by omega
            rw [← hU] at HZ
            have hU2 : U ≤ 70000000000000000 := by omega
            have ha2 := al_hi U
            obtain ⟨A2, hA3⟩ : ∃ A2, A2 = al U := ⟨_, rfl⟩
            have cA2 : Hid (∀ w', Calls Tryz.prog 25 #[.int .i64 (U : Int)] w' fun e w'' => e = .returned (.int .i64 (A2 : Int)) ∧ w' = w'') := fun w' => by rw [hA3]; exact (aligned_c U (by omega) w').mono fun _ _ ⟨h1, h2⟩ => ⟨h1, h2.symm⟩
            rw [← hA3] at ha2 HZ
            have HA23 : Hid (A2 = al (A + 24 + 24 * N.length + 1 + T + 27)) := by unfold Hid; rw [hA3, hU]
            clear hA3 hU
            have p3 : wr.cell? ⟨Pb, 3, none⟩ = some (.int .i64 ((A : Int) + 24 * (1 + (N.length : Int)) + 1 + (T : Int))) := hpq.out.cell 3
            have p4 : wr.cell? ⟨Pb, 4, none⟩ = some (.int .i64 0) := hpq.out.cell 4
            have p5 : wr.cell? ⟨Pb, 5, none⟩ = some (.int .i64 (S : Int)) := hpq.out.cell 5
            have p0 : wr.cell? ⟨Pb, 0, none⟩ = some (.slice da L.length dc) := hpq.out.cell 0
            have p1 : wr.cell? ⟨Pb, 1, none⟩ = some (.int .i64 (A : Int)) := hpq.out.cell 1
            have p2 : wr.cell? ⟨Pb, 2, none⟩ = some (.int .i64 ((A : Int) + 24 * (1 + (N.length : Int)))) := hpq.out.cell 2
            have f4 := hpq.out.frozen 4
            have f5 := hpq.out.frozen 5
            have HRB : Hid (∀ a b, ((wr.setCell ⟨Pb, 4, none⟩ a).setCell ⟨Pb, 5, none⟩ b).heap[Rb]? = some (.cells #[Value.slice none 0 0, .int .i64 0, .int .i64 0, .int .i64 0, .int .i64 0, .int .i64 0] 50 (0, 0))) := fun a b => by
              rw [((hpq.out.set4 a).set5 b).below.block Rb hRP]; exact HRb.out
            have r0 : ∀ a b, ((wr.setCell ⟨Pb, 4, none⟩ a).setCell ⟨Pb, 5, none⟩ b).cell? ⟨Rb, 0, none⟩ = some (.slice none 0 0) := fun a b => cell_of_row _ Rb 0 _ 50 (0, 0) (HRB.out a b)
            have z0 : ∀ a b, ((wr.setCell ⟨Pb, 4, none⟩ a).setCell ⟨Pb, 5, none⟩ b).frozen? ⟨Rb, 0, none⟩ = false := fun a b => frozen_of_row _ Rb 0 _ 50 (HRB.out a b)
            have r1 : ∀ a b, ((wr.setCell ⟨Pb, 4, none⟩ a).setCell ⟨Pb, 5, none⟩ b).cell? ⟨Rb, 1, none⟩ = some (.int .i64 0) := fun a b => cell_of_row _ Rb 1 _ 50 (0, 0) (HRB.out a b)
            have z1 : ∀ a b, ((wr.setCell ⟨Pb, 4, none⟩ a).setCell ⟨Pb, 5, none⟩ b).frozen? ⟨Rb, 1, none⟩ = false := fun a b => frozen_of_row _ Rb 1 _ 50 (HRB.out a b)
            have r2 : ∀ a b, ((wr.setCell ⟨Pb, 4, none⟩ a).setCell ⟨Pb, 5, none⟩ b).cell? ⟨Rb, 2, none⟩ = some (.int .i64 0) := fun a b => cell_of_row _ Rb 2 _ 50 (0, 0) (HRB.out a b)
            have z2 : ∀ a b, ((wr.setCell ⟨Pb, 4, none⟩ a).setCell ⟨Pb, 5, none⟩ b).frozen? ⟨Rb, 2, none⟩ = false := fun a b => frozen_of_row _ Rb 2 _ 50 (HRB.out a b)
            have r3 : ∀ a b, ((wr.setCell ⟨Pb, 4, none⟩ a).setCell ⟨Pb, 5, none⟩ b).cell? ⟨Rb, 3, none⟩ = some (.int .i64 0) := fun a b => cell_of_row _ Rb 3 _ 50 (0, 0) (HRB.out a b)
            have z3 : ∀ a b, ((wr.setCell ⟨Pb, 4, none⟩ a).setCell ⟨Pb, 5, none⟩ b).frozen? ⟨Rb, 3, none⟩ = false := fun a b => frozen_of_row _ Rb 3 _ 50 (HRB.out a b)
            have r4 : ∀ a b, ((wr.setCell ⟨Pb, 4, none⟩ a).setCell ⟨Pb, 5, none⟩ b).cell? ⟨Rb, 4, none⟩ = some (.int .i64 0) := fun a b => cell_of_row _ Rb 4 _ 50 (0, 0) (HRB.out a b)
            have z4 : ∀ a b, ((wr.setCell ⟨Pb, 4, none⟩ a).setCell ⟨Pb, 5, none⟩ b).frozen? ⟨Rb, 4, none⟩ = false := fun a b => frozen_of_row _ Rb 4 _ 50 (HRB.out a b)
            have r5 : ∀ a b, ((wr.setCell ⟨Pb, 4, none⟩ a).setCell ⟨Pb, 5, none⟩ b).cell? ⟨Rb, 5, none⟩ = some (.int .i64 0) := fun a b => cell_of_row _ Rb 5 _ 50 (0, 0) (HRB.out a b)
            have z5 : ∀ a b, ((wr.setCell ⟨Pb, 4, none⟩ a).setCell ⟨Pb, 5, none⟩ b).frozen? ⟨Rb, 5, none⟩ = false := fun a b => frozen_of_row _ Rb 5 _ 50 (HRB.out a b)
            go_wp2_with (go_at_call 25; refine (cA2.out _).mono ?_; rintro e w' ⟨rfl, rfl⟩)
            have hPB := HN3.out
            have hq5 := (hpq.out.set4 (.int .i64 (A2 : Int))).set5 (.int .i64 ((A2 : Int) + 256))
            exact bodyPost_ret (v := .agg #[.slice da L.length dc, .int .i64 (A : Int), .int .i64 ((A : Int) + 24 * (1 + (N.length : Int))), (.int .i64 ((A : Int) + 24 * (1 + (N.length : Int)) + 1 + (T : Int))), .int .i64 (A2 : Int), .int .i64 ((A2 : Int) + 256)]) (results_cell_row Tryz.results13 _ _ Rb 50 _ (0, 0) _ (by rfl) (set6_blk (HRB.out _ _) _ _ _ _ _ _) Tryz.underlying50 (by rfl) size46) rfl
              ⟨_, _, _, _, _, by rw [HZ.out]; rfl, own_leB (set6_own hq5.own (by omega) _ _ _ _ _ _) (by have := HB0.out; omega), set6_below (by rw [← HB0.out]; exact HB1.out.trans (hq5.below.mono (by omega))) (by have := HB0.out; omega) _ _ _ _ _ _, by
                have e1 : A = tabAt L := by unfold tabAt; rw [HAA.out, HSL.out]
                have e2 := HTN.out
                unfold PV; rw [if_neg HN0.out, ← e1, ← e2, ← HA23.out]; exact ⟨rfl, by omega, by omega, rfl⟩⟩
end Go.Proofs.YtopddflnahfomaaGreatDoor
