/-
  Ipe Iwq.
-/
import Derived.Test.YtheeogbmljjbdaaGreatDoorN35
import Derived.Test.YtheeogbmljjbdaaGreatDoorN36
namespace Go.Proofs.YtheeogbmljjbdaaGreatDoor
set_option linter.unusedVariables false
open Go.ChangeShapes Go.WideShapes Go.ChangeAt Go.RowKit Go.Deep
/-- The places of a plan. -/
def PV (L : List Sg) (N : List Sy) (t1 t2 t3 t4 : Int) : Prop :=
  if N.length = 0 then t1 = 0 ∧ t2 = 0 ∧ t3 = 0 ∧ t4 = 0
  else t1 = (tabAt L : Nat) ∧ t2 = (tabAt L + 24 + 24 * N.length : Nat) ∧ t3 = (tabAt L + 24 + 24 * N.length + 1 + nk N N.length : Nat) ∧ t4 = (al (tabAt L + 24 + 24 * N.length + 1 + nk N N.length + 27) : Nat)
set_option maxHeartbeats 4000000 in
theorem plan_d (E : BitVec 64) (vs vn : Value) (L : List Sg) (N : List Sy) (hL : L.length ≤ 16) (hN : N.length ≤ 400) (w : World) (hi : Img w vs vn L N) :
    Calls Tryz.prog 24 #[.agg #[.int .u64 (n64 E), vs, vn]] w fun e w' => ∃ dv t1 t2 t3 t4, e = .returned (.agg #[dv, .int .i64 t1, .int .i64 t2, .int .i64 t3, .int .i64 t4, .int .i64 ((szz L N : Nat) : Int)]) ∧ Hid (w'.ownsRow w.heap.size 3 1 dv L.length (iv (pls L L.length))) ∧ Below w.heap.size w w' ∧ PV L N t1 t2 t3 t4 := by
  have HI : Hid (Img w vs vn L N) := hi
  obtain ⟨B, hB⟩ : ∃ B, B = w.heap.size := ⟨_, rfl⟩
  have HB0 : Hid (B = w.heap.size) := hB
  clear hB
  obtain ⟨sa, sc, rfl, _, _⟩ := hi.segs
  obtain ⟨na, nc, rfl, _, _⟩ := hi.syms
  clear hi
  go_enter Tryz.func24, Tryz.ntmps24
  go_wp2
  have HM1 : Hid ((((w.alloc (.cells #[.int .u64 (n64 E), .slice sa L.length sc, .slice na N.length nc] 26)).alloc (.cells #[.slice none 0 0, .int .i64 0, .int .i64 0, .int .i64 0, .int .i64 0, .int .i64 0] 58)).alloc (.cells #[.slice none 0 0, .int .i64 0, .int .i64 0, .int .i64 0, .int .i64 0, .int .i64 (64 + 56 * (L.length : Int))] 58)).cell? ⟨w.heap.size, 1, none⟩ = some (.slice sa L.length sc)) := by unfold Hid; rw [alloc3_0]; rfl
  have HM2 : Hid ((((w.alloc (.cells #[.int .u64 (n64 E), .slice sa L.length sc, .slice na N.length nc] 26)).alloc (.cells #[.slice none 0 0, .int .i64 0, .int .i64 0, .int .i64 0, .int .i64 0, .int .i64 0] 58)).alloc (.cells #[.slice none 0 0, .int .i64 0, .int .i64 0, .int .i64 0, .int .i64 0, .int .i64 (64 + 56 * (L.length : Int))] 58)).cell? ⟨w.heap.size, 2, none⟩ = some (.slice na N.length nc)) := by unfold Hid; rw [alloc3_0]; rfl
  have HRb : Hid ((((w.alloc (.cells #[.int .u64 (n64 E), .slice sa L.length sc, .slice na N.length nc] 26)).alloc (.cells #[.slice none 0 0, .int .i64 0, .int .i64 0, .int .i64 0, .int .i64 0, .int .i64 0] 58)).alloc (.cells #[.slice none 0 0, .int .i64 0, .int .i64 0, .int .i64 0, .int .i64 0, .int .i64 (64 + 56 * (L.length : Int))] 58)).heap[w.heap.size + 1]? = some (.cells #[Value.slice none 0 0, .int .i64 0, .int .i64 0, .int .i64 0, .int .i64 0, .int .i64 0] 58 (0, 0))) := by
    unfold Hid; rw [Below.heap_alloc _ _ _ (by simp)]; exact (heap_alloc_new (w.alloc (.cells #[.int .u64 (n64 E), .slice sa L.length sc, .slice na N.length nc] 26)) _ |> fun h => by simpa using h)
  have HP0 : Hid (PL L 0 (w.heap.size + 1 + 1) (.slice none 0 0) (((w.alloc (.cells #[.int .u64 (n64 E), .slice sa L.length sc, .slice na N.length nc] 26)).alloc (.cells #[.slice none 0 0, .int .i64 0, .int .i64 0, .int .i64 0, .int .i64 0, .int .i64 0] 58)).alloc (.cells #[.slice none 0 0, .int .i64 0, .int .i64 0, .int .i64 0, .int .i64 0, .int .i64 (64 + 56 * (L.length : Int))] 58)) (((w.alloc (.cells #[.int .u64 (n64 E), .slice sa L.length sc, .slice na N.length nc] 26)).alloc (.cells #[.slice none 0 0, .int .i64 0, .int .i64 0, .int .i64 0, .int .i64 0, .int .i64 0] 58)).alloc (.cells #[.slice none 0 0, .int .i64 0, .int .i64 0, .int .i64 0, .int .i64 0, .int .i64 (64 + 56 * (L.length : Int))] 58))) := by
    refine ⟨?_, World.ownsRow_nil _ _ _ _, Below.refl _ _⟩
    have e : ((sk L 0 : Nat) : Int) = 64 + 56 * (L.length : Int) := by show ((64 + 56 * L.length : Nat) : Int) = _; omega
    rw [e]
    exact (heap_alloc_new ((w.alloc (.cells #[.int .u64 (n64 E), .slice sa L.length sc, .slice na N.length nc] 26)).alloc (.cells #[.slice none 0 0, .int .i64 0, .int .i64 0, .int .i64 0, .int .i64 0, .int .i64 0] 58)) _ |> fun h => by simpa using h)
  have HB1 : Hid (Below B w (((w.alloc (.cells #[.int .u64 (n64 E), .slice sa L.length sc, .slice na N.length nc] 26)).alloc (.cells #[.slice none 0 0, .int .i64 0, .int .i64 0, .int .i64 0, .int .i64 0, .int .i64 0] 58)).alloc (.cells #[.slice none 0 0, .int .i64 0, .int .i64 0, .int .i64 0, .int .i64 0, .int .i64 (64 + 56 * (L.length : Int))] 58))) := (((Below.refl _ _).alloc (by rw [HB0.out]; exact Nat.le_refl _) _).alloc (by rw [HB0.out]; simp) _).alloc (by rw [HB0.out]; simp; omega) _
  generalize (((w.alloc (.cells #[.int .u64 (n64 E), .slice sa L.length sc, .slice na N.length nc] 26)).alloc (.cells #[.slice none 0 0, .int .i64 0, .int .i64 0, .int .i64 0, .int .i64 0, .int .i64 0] 58)).alloc (.cells #[.slice none 0 0, .int .i64 0, .int .i64 0, .int .i64 0, .int .i64 0, .int .i64 (64 + 56 * (L.length : Int))] 58)) = W1 at *
  obtain ⟨Mb, hMb⟩ : ∃ Mb, Mb = w.heap.size := ⟨_, rfl⟩
  obtain ⟨Rb, hRb⟩ : ∃ Rb, Rb = w.heap.size + 1 := ⟨_, rfl⟩
  obtain ⟨Pb, hPb⟩ : ∃ Pb, Pb = w.heap.size + 1 + 1 := ⟨_, rfl⟩
  rw [← hPb] at HP0 ⊢
  rw [← hRb] at HRb ⊢
  rw [← hMb] at HM1 HM2 ⊢
  have HN3 : Hid (Mb = B ∧ Rb = B + 1 ∧ Pb = B + 2) := by have := HB0.out; exact ⟨by omega, by omega, by omega⟩
  clear hMb hRb hPb
  go_loopw [18] (fun i wr => ∃ k : Nat, k ≤ L.length ∧ i = .int .i64 k ∧ ∃ dv, Hid (PL L k Pb dv W1 wr)) (fun i _ => L.length - (intOf i).toNat)
  case atStart => exact ⟨0, Nat.zero_le _, rfl, _, HP0⟩
  case round =>
    obtain ⟨k, hk, rfl, dv, hp⟩ := hrel
    clear HP0
    have hsk := sk_le _ HI.out.lens k hk
    have HBw : Hid (Below B w wr) := HB1.out.trans (hp.out.below.mono (by have := HN3.out; omega))
    obtain ⟨S, hS⟩ : ∃ S, S = sk L k := ⟨_, rfl⟩
    rw [← hS] at hsk
    have HS : Hid (S = sk L k) := hS
    clear hS
    have hS2 : S ≤ 3000000000000000 := by omega
    have p0 : wr.cell? ⟨Pb, 0, none⟩ = some dv := hp.out.cell 0
    have p5 : wr.cell? ⟨Pb, 5, none⟩ = some (.int .i64 (S : Int)) := by rw [HS.out]; exact hp.out.cell 5
    have f0 := hp.out.frozen 0
    have f5 := hp.out.frozen 5
    have HPs : Hid (Pb < wr.heap.size) := hp.out.lt
    clear hsk
    by_cases hlt : k < L.length
    · have hlt2 : (k : Int) < (L.length : Int) := by omega
      have hn := HI.out.lens k hlt
      obtain ⟨_, _, he, _, hcc⟩ := HI.out.segs.later HBw.out HB0.out
      cases he
      obtain ⟨g, off, rfl, hg, hcells⟩ := hcc (by intro e; have := congrArg List.length e; simp only [List.length_nil] at this; omega)
      obtain ⟨c0, c1, c2, c3⟩ := hcells k hlt
      clear hcells hcc
      obtain ⟨x, hx⟩ : ∃ x, x = sg L k := ⟨_, rfl⟩
      rw [← hx] at c0 c1 c2 c3 hn
      have HX : Hid (x = sg L k) := hx
      clear hx
      have hpb : Pb ≠ wr.heap.size := by have := HPs.out; omega
      by_cases hn0 : 0 < x.n
      · have hn0' : (0 : Int) < (x.n : Int) := by omega
        have HK : Hid (sk L (k + 1) = al S + x.n) := by unfold Hid; rw [show sk L (k + 1) = if 0 < (sg L k).n then al (sk L k) + (sg L k).n else sk L k from rfl, ← HX.out, if_pos hn0, HS.out]
        have HPL : Hid (pls L (k + 1) = pls L k ++ [((al S : Nat) : Int)]) := by unfold Hid; rw [show pls L (k + 1) = pls L k ++ [if 0 < (sg L k).n then ((al (sk L k) : Nat) : Int) else 0] from rfl, ← HX.out, if_pos hn0, HS.out]
        have ha := al_hi S
        obtain ⟨A, hA⟩ : ∃ A, A = al S := ⟨_, rfl⟩
        have cA : Hid (∀ w', Calls Tryz.prog 46 #[.int .i64 (S : Int)] w' fun e w'' => e = .returned (.int .i64 (A : Int)) ∧ w' = w'') := fun w' => by rw [hA]; exact (aligned_c S (by omega) w').mono fun _ _ ⟨h1, h2⟩ => ⟨h1, h2.symm⟩
        rw [← hA] at ha HK HPL
        clear hA hn0
        have q5 : ∀ o, (wr.alloc o).cell? ⟨Pb, 5, none⟩ = some (.int .i64 (S : Int)) := fun o => by rw [World.cell?_alloc_past _ _ _ HPs.out]; exact p5
        have r5 : ∀ o, (wr.alloc o).frozen? ⟨Pb, 5, none⟩ = false := fun o => frozen_of_row _ Pb 5 _ 58 (blk_alloc hp.out.blk o)
        have q0 : ∀ v o, ((wr.alloc o).setCell ⟨Pb, 5, none⟩ v).cell? ⟨Pb, 0, none⟩ = some dv := fun v o => cell_of_row _ Pb 0 _ 58 (0, 0) (hp.out.set5 o v)
        have HPs2 : Hid (Pb + 1 ≤ ((wr.alloc (.cells #[.int .u64 (n64 x.a), .int .u64 (n64 x.s), .int .i64 x.f, .slice x.m x.n x.c] 61)).setCell ⟨Pb, 5, none⟩ (.int .i64 ((A : Int) + (x.n : Int)))).heap.size) := by unfold Hid; have := HPs.out; simp [World.setCell]; omega
        clear p0 p5 f0 f5
        go_wp2_with (first | (go_at_call 46; refine (cA.out _).mono ?_; rintro e w' ⟨rfl, rfl⟩) | (at_builtin; refine appP (by rfl) _ _ (by rfl) (Pb + 1) Pb _ _ (pls L k) _ (by rfl) (hp.out.set5 _ _) (by omega) (hp.out.own5 _ _) _ (by rfl) (by simp [World.setCell]) (by rw [pls_length]; omega) HPs2.out ?_; intro g' cap' w' hown' hP' hc' hf' hb'))
        have HN : Hid (PL L (k + 1) Pb (.slice (some ⟨g', 0, none⟩) ((pls L k).length + 1) cap') W1 (w'.setCell ⟨Pb, 0, none⟩ (.slice (some ⟨g', 0, none⟩) ((pls L k).length + 1) cap'))) := by
          refine PL.next (hp.out.bel5 _ _) hP' ?_ ?_ hb'
          · rw [HK.out]; rfl
          · rw [← HPL.out, pls_length L (k + 1)] at hown'; exact hown'
        clear hown' hP' hb'
        go_roundw
        case rel => exact ⟨k + 1, by omega, by go_num, _, HN⟩
        case measure => simp [intOf]; omega
      · have hn0' : ¬ (0 : Int) < (x.n : Int) := by omega
        have HK : Hid (sk L (k + 1) = S) := by unfold Hid; rw [show sk L (k + 1) = if 0 < (sg L k).n then al (sk L k) + (sg L k).n else sk L k from rfl, ← HX.out, if_neg hn0, HS.out]
        have HPL : Hid (pls L (k + 1) = pls L k ++ [0]) := by unfold Hid; rw [show pls L (k + 1) = pls L k ++ [if 0 < (sg L k).n then ((al (sk L k) : Nat) : Int) else 0] from rfl, ← HX.out, if_neg hn0]
        clear hn0
        have q0 : ∀ o, (wr.alloc o).cell? ⟨Pb, 0, none⟩ = some dv := fun o => by rw [World.cell?_alloc_past _ _ _ HPs.out]; exact p0
        have HPs2 : Hid (Pb + 1 ≤ (wr.alloc (.cells #[.int .u64 (n64 x.a), .int .u64 (n64 x.s), .int .i64 x.f, .slice x.m x.n x.c] 61)).heap.size) := by unfold Hid; have := HPs.out; simp; omega
        clear p0 p5 f0 f5
        go_wp2_with (at_builtin; refine appP (by rfl) _ _ (by rfl) (Pb + 1) Pb _ _ (pls L k) _ (by rfl) (blk_alloc hp.out.blk _) (by omega) (hp.out.own0 _) _ (by rfl) (by simp) (by rw [pls_length]; omega) HPs2.out ?_; intro g' cap' w' hown' hP' hc' hf' hb')
        have HN : Hid (PL L (k + 1) Pb (.slice (some ⟨g', 0, none⟩) ((pls L k).length + 1) cap') W1 (w'.setCell ⟨Pb, 0, none⟩ (.slice (some ⟨g', 0, none⟩) ((pls L k).length + 1) cap'))) := by
          refine PL.next (hp.out.below.alloc (Nat.le_of_lt HPs.out) _) hP' ?_ ?_ hb'
          · rw [HK.out, HS.out]; rfl
          · rw [← HPL.out, pls_length L (k + 1)] at hown'; exact hown'
        clear hown' hP' hb'
        go_roundw
        case rel => exact ⟨k + 1, by omega, by go_num, _, HN⟩
        case measure => simp [intOf]; omega
    · have hkl : k = L.length := by omega
      have hle : (L.length : Int) ≤ (k : Int) := by omega
      have HSL : Hid (S = sk L L.length) := by rw [← hkl]; exact HS
      have HOW : Hid (wr.ownsRow (Pb + 1) 3 1 dv L.length (iv (pls L L.length))) := by rw [← hkl]; exact hp.out.own
      obtain ⟨da, dc, hdv⟩ : ∃ da dc, dv = .slice da L.length dc := by
        rcases Go.Joins.ownsRow_forms HOW.out with ⟨h1, h2⟩ | ⟨g', c', h1⟩
        · exact ⟨none, 0, by rw [h1, h2]⟩
        · exact ⟨_, _, h1⟩
      subst hdv
      have p1 : wr.cell? ⟨Pb, 1, none⟩ = some (.int .i64 0) := hp.out.cell 1
      have p2 : wr.cell? ⟨Pb, 2, none⟩ = some (.int .i64 0) := hp.out.cell 2
      have p3 : wr.cell? ⟨Pb, 3, none⟩ = some (.int .i64 0) := hp.out.cell 3
      have p4 : wr.cell? ⟨Pb, 4, none⟩ = some (.int .i64 0) := hp.out.cell 4
      have hRP : Rb < Pb := by have := HN3.out; omega
      have hRn : Rb ≠ Pb := by omega
      have hRw : wr.heap[Rb]? = some (.cells #[Value.slice none 0 0, .int .i64 0, .int .i64 0, .int .i64 0, .int .i64 0, .int .i64 0] 58 (0, 0)) := by rw [hp.out.below.block Rb hRP]; exact HRb.out
      have HRw : Hid (wr.heap[Rb]? = some (.cells #[Value.slice none 0 0, .int .i64 0, .int .i64 0, .int .i64 0, .int .i64 0, .int .i64 0] 58 (0, 0))) := hRw
      have m2 : wr.cell? ⟨Mb, 2, none⟩ = some (.slice na N.length nc) := by rw [hp.out.below.cell (show Mb < Pb by have := HN3.out; omega)]; exact HM2.out
      clear hkl hlt hRw
      by_cases hN0 : N.length = 0
      · have hN0' : ((N.length : Int) == 0) = true := by rw [hN0]; rfl
        have HZ : Hid (szz L N = S) := by unfold Hid szz; rw [if_pos hN0, HSL.out]
        have r0 : wr.cell? ⟨Rb, 0, none⟩ = some (.slice none 0 0) := cell_of_row wr Rb 0 _ 58 (0, 0) HRw.out
        have r1 : wr.cell? ⟨Rb, 1, none⟩ = some (.int .i64 0) := cell_of_row wr Rb 1 _ 58 (0, 0) HRw.out
        have r2 : wr.cell? ⟨Rb, 2, none⟩ = some (.int .i64 0) := cell_of_row wr Rb 2 _ 58 (0, 0) HRw.out
        have r3 : wr.cell? ⟨Rb, 3, none⟩ = some (.int .i64 0) := cell_of_row wr Rb 3 _ 58 (0, 0) HRw.out
        have r4 : wr.cell? ⟨Rb, 4, none⟩ = some (.int .i64 0) := cell_of_row wr Rb 4 _ 58 (0, 0) HRw.out
        have r5 : wr.cell? ⟨Rb, 5, none⟩ = some (.int .i64 0) := cell_of_row wr Rb 5 _ 58 (0, 0) HRw.out
        have z0 := frozen_of_row wr Rb 0 _ 58 HRw.out
        have z1 := frozen_of_row wr Rb 1 _ 58 HRw.out
        have z2 := frozen_of_row wr Rb 2 _ 58 HRw.out
        have z3 := frozen_of_row wr Rb 3 _ 58 HRw.out
        have z4 := frozen_of_row wr Rb 4 _ 58 HRw.out
        have z5 := frozen_of_row wr Rb 5 _ 58 HRw.out
        have hN0'' := hN0
        clear hN0
        go_wp2
        have hB := HB0.out
        have hPB := HN3.out
        exact bodyPost_ret (v := .agg #[.slice da L.length dc, .int .i64 0, .int .i64 0, .int .i64 0, .int .i64 0, .int .i64 (S : Int)]) (results_cell_row Tryz.results24 _ _ Rb 58 _ (0, 0) _ (by rfl) (set6_blk HRw.out _ _ _ _ _ _) Tryz.underlying58 (by rfl) size46) rfl
          ⟨_, 0, 0, 0, 0, by rw [HZ.out], own_leB (set6_own HOW.out (by omega) _ _ _ _ _ _) (by omega), set6_below (by rw [← hB]; exact HBw.out) (by omega) _ _ _ _ _ _, by unfold PV; rw [if_pos hN0'']; exact ⟨rfl, rfl, rfl, rfl⟩⟩
      · have hN0' : ((N.length : Int) == 0) = false := by simp; intro h; apply hN0; rw [h]; rfl
        have HN0 : Hid (¬ N.length = 0) := hN0
        have f1 := hp.out.frozen 1
        have f2 := hp.out.frozen 2
        have f3 := hp.out.frozen 3
        have ha := al_hi S
        obtain ⟨A, hA⟩ : ∃ A, A = al S := ⟨_, rfl⟩
        have cA : Hid (∀ w', Calls Tryz.prog 46 #[.int .i64 (S : Int)] w' fun e w'' => e = .returned (.int .i64 (A : Int)) ∧ w' = w'') := fun w' => by rw [hA]; exact (aligned_c S (by omega) w').mono fun _ _ ⟨h1, h2⟩ => ⟨h1, h2.symm⟩
        rw [← hA] at ha
        have HAA : Hid (A = al S) := hA
        clear hA hN0
        have hMP : Mb ≠ Pb := by have := HN3.out; omega
        have m3 : ∀ a b c, (((wr.setCell ⟨Pb, 1, none⟩ a).setCell ⟨Pb, 2, none⟩ b).setCell ⟨Pb, 3, none⟩ c).cell? ⟨Mb, 2, none⟩ = some (.slice na N.length nc) := fun a b c => by
          rw [World.cell?_setCell_other _ _ _ _ (by intro e; cases e <;> exact hMP rfl), World.cell?_setCell_other _ _ _ _ (by intro e; cases e <;> exact hMP rfl), World.cell?_setCell_other _ _ _ _ (by intro e; cases e <;> exact hMP rfl)]; exact m2
        go_wp2_with (go_at_call 46; refine (cA.out _).mono ?_; rintro e w' ⟨rfl, rfl⟩)
        have HQ0 : Hid (PQ (.slice da L.length dc) (.int .i64 (A : Int)) (.int .i64 ((A : Int) + 24 * (1 + (N.length : Int)))) (.int .i64 ((A : Int) + 24 * (1 + (N.length : Int)) + 1)) (.int .i64 0) (.int .i64 (S : Int)) Pb L.length (iv (pls L L.length)) W1 (((wr.setCell ⟨Pb, 1, none⟩ (.int .i64 (A : Int))).setCell ⟨Pb, 2, none⟩ (.int .i64 ((A : Int) + 24 * (1 + (N.length : Int))))).setCell ⟨Pb, 3, none⟩ (.int .i64 ((A : Int) + 24 * (1 + (N.length : Int)) + 1)))) := by
          have h0 : PQ (.slice da L.length dc) (.int .i64 0) (.int .i64 0) (.int .i64 0) (.int .i64 0) (.int .i64 (S : Int)) Pb L.length (iv (pls L L.length)) W1 wr := ⟨by rw [HS.out]; exact hp.out.blk, HOW.out, hp.out.below⟩
          exact ((h0.set1 _).set2 _).set3 _
        clear p0 p1 p2 p3 p4 p5 f0 f1 f2 f3 f5 m2 m3 hp HOW HRw HBw HPs
        generalize ((wr.setCell ⟨Pb, 1, none⟩ (.int .i64 (A : Int))).setCell ⟨Pb, 2, none⟩ (.int .i64 ((A : Int) + 24 * (1 + (N.length : Int))))).setCell ⟨Pb, 3, none⟩ (.int .i64 ((A : Int) + 24 * (1 + (N.length : Int)) + 1)) = W2 at *
        have hA2 : A ≤ 3000000000000007 := by omega
        go_loopw [67] (fun i wr => ∃ q : Nat, q ≤ N.length ∧ i = .int .i64 q ∧ Hid (PQ (.slice da L.length dc) (.int .i64 (A : Int)) (.int .i64 ((A : Int) + 24 * (1 + (N.length : Int)))) (.int .i64 ((A : Int) + 24 * (1 + (N.length : Int)) + 1 + ((nk N q : Nat) : Int))) (.int .i64 0) (.int .i64 (S : Int)) Pb L.length (iv (pls L L.length)) W1 wr)) (fun i _ => N.length - (intOf i).toNat)
        case atStart => exact ⟨0, Nat.zero_le _, rfl, by have := HQ0.out; unfold Hid; simpa [nk] using this⟩
        case round =>
          obtain ⟨q, hq, rfl, hpq⟩ := hrel
          clear HQ0
          have hnk := nk_le _ HI.out.texts q hq
          have HBw : Hid (Below B w wr) := HB1.out.trans (hpq.out.below.mono (by have := HN3.out; omega))
          obtain ⟨T, hT⟩ : ∃ T, T = nk N q := ⟨_, rfl⟩
          rw [← hT] at hnk hpq
          have HTT : Hid (T = nk N q) := hT
          clear hT
          have hT2 : T ≤ 60000000000000000 := by omega
          clear hnk
          by_cases hlt : q < N.length
          · have hlt2 : (q : Int) < (N.length : Int) := by omega
            have hn := HI.out.texts q hlt
            obtain ⟨_, _, he, _, hcc⟩ := HI.out.syms.later HBw.out HB0.out
            cases he
            obtain ⟨g, off, rfl, hg, hcells⟩ := hcc (by intro e; have := congrArg List.length e; simp only [List.length_nil] at this; omega)
            obtain ⟨c0, c1⟩ := hcells q hlt
            clear hcells hcc
            obtain ⟨y, hy⟩ : ∃ y, y = sy N q := ⟨_, rfl⟩
            rw [← hy] at c0 c1 hn
            have HY : Hid (nk N (q + 1) = T + (y.s.size + 1)) := by unfold Hid; rw [HTT.out, hy]; rfl
            clear hy
            have q3 : ∀ o, (wr.alloc o).cell? ⟨Pb, 3, none⟩ = some (.int .i64 ((A : Int) + 24 * (1 + (N.length : Int)) + 1 + (T : Int))) := fun o => (hpq.out.alloc o).cell 3
            have r3 : ∀ o, (wr.alloc o).frozen? ⟨Pb, 3, none⟩ = false := fun o => (hpq.out.alloc o).frozen 3
            have HNX : Hid (PQ (.slice da L.length dc) (.int .i64 (A : Int)) (.int .i64 ((A : Int) + 24 * (1 + (N.length : Int)))) (.int .i64 ((A : Int) + 24 * (1 + (N.length : Int)) + 1 + (T : Int) + ((y.s.size : Int) + 1))) (.int .i64 0) (.int .i64 (S : Int)) Pb L.length (iv (pls L L.length)) W1 ((wr.alloc (.cells #[.string y.s, .int .u64 (n64 y.v)] 87)).setCell ⟨Pb, 3, none⟩ (.int .i64 ((A : Int) + 24 * (1 + (N.length : Int)) + 1 + (T : Int) + ((y.s.size : Int) + 1))))) := (hpq.out.alloc _).set3 _
            have hne3 : Pb ≠ wr.heap.size := by have := hpq.out.lt; omega
            go_wp2
            go_roundw
            case rel =>
              refine ⟨q + 1, by omega, by go_num, ?_⟩
              have := HNX.out
              rw [HY.out]
              rw [show ((A : Int) + 24 * (1 + (N.length : Int)) + 1 + ((T + (y.s.size + 1) : Nat) : Int)) = (A : Int) + 24 * (1 + (N.length : Int)) + 1 + (T : Int) + ((y.s.size : Int) + 1) by omega]
              exact this
            case measure => simp [intOf]; omega
          · have hqn : q = N.length := by omega
            have hle2 : (N.length : Int) ≤ (q : Int) := by omega
            have HZ : Hid (szz L N = al (A + 24 + 24 * N.length + 1 + T + 27) + 256) := by
              unfold Hid szz tabAt; rw [if_neg HN0.out, HAA.out, HSL.out, HTT.out, hqn]
            have HTN : Hid (T = nk N N.length) := by unfold Hid; rw [HTT.out, hqn]
            clear hqn hlt
            obtain ⟨U, hU⟩ : ∃ U, U = A + 24 + 24 * N.length + 1 + T + 27 := ⟨_, rfl⟩
            have hUi : ((A : Int) + 24 * (1 + (N.length : Int)) + 1 + (T : Int) + 27) = (U : Int) := by omega
            rw [← hU] at HZ
            have hU2 : U ≤ 70000000000000000 := by omega
            have ha2 := al_hi U
            obtain ⟨A2, hA3⟩ : ∃ A2, A2 = al U := ⟨_, rfl⟩
            have cA2 : Hid (∀ w', Calls Tryz.prog 46 #[.int .i64 (U : Int)] w' fun e w'' => e = .returned (.int .i64 (A2 : Int)) ∧ w' = w'') := fun w' => by rw [hA3]; exact (aligned_c U (by omega) w').mono fun _ _ ⟨h1, h2⟩ => ⟨h1, h2.symm⟩
            rw [← hA3] at ha2 HZ
            have HA23 : Hid (A2 = al (A + 24 + 24 * N.length + 1 + T + 27)) := by unfold Hid; rw [hA3, hU]
            clear hA3 hU
            have p3 : wr.cell? ⟨Pb, 3, none⟩ = some (.int .i64 ((A : Int) + 24 * (1 + (N.length : Int)) + 1 + (T : Int))) := hpq.out.cell 3
            have p4 : wr.cell? ⟨Pb, 4, none⟩ = some (.int .i64 0) := hpq.out.cell 4
            have p5 : wr.cell? ⟨Pb, 5, none⟩ = some (.int .i64 (S : Int)) := hpq.out.cell 5
            have p0 : wr.cell? ⟨Pb, 0, none⟩ = some (.slice da L.length dc) := hpq.out.cell 0
            have p1 : wr.cell? ⟨Pb, 1, none⟩ = some (.int .i64 (A : Int)) := hpq.out.cell 1
            have p2 : wr.cell? ⟨Pb, 2, none⟩ = some (.int .i64 ((A : Int) + 24 * (1 + (N.length : Int)))) := hpq.out.cell 2
            have f4 := hpq.out.frozen 4
            have f5 := hpq.out.frozen 5
            have HRB : Hid (∀ a b, ((wr.setCell ⟨Pb, 4, none⟩ a).setCell ⟨Pb, 5, none⟩ b).heap[Rb]? = some (.cells #[Value.slice none 0 0, .int .i64 0, .int .i64 0, .int .i64 0, .int .i64 0, .int .i64 0] 58 (0, 0))) := fun a b => by
              rw [((hpq.out.set4 a).set5 b).below.block Rb hRP]; exact HRb.out
            have r0 : ∀ a b, ((wr.setCell ⟨Pb, 4, none⟩ a).setCell ⟨Pb, 5, none⟩ b).cell? ⟨Rb, 0, none⟩ = some (.slice none 0 0) := fun a b => cell_of_row _ Rb 0 _ 58 (0, 0) (HRB.out a b)
            have z0 : ∀ a b, ((wr.setCell ⟨Pb, 4, none⟩ a).setCell ⟨Pb, 5, none⟩ b).frozen? ⟨Rb, 0, none⟩ = false := fun a b => frozen_of_row _ Rb 0 _ 58 (HRB.out a b)
            have r1 : ∀ a b, ((wr.setCell ⟨Pb, 4, none⟩ a).setCell ⟨Pb, 5, none⟩ b).cell? ⟨Rb, 1, none⟩ = some (.int .i64 0) := fun a b => cell_of_row _ Rb 1 _ 58 (0, 0) (HRB.out a b)
            have z1 : ∀ a b, ((wr.setCell ⟨Pb, 4, none⟩ a).setCell ⟨Pb, 5, none⟩ b).frozen? ⟨Rb, 1, none⟩ = false := fun a b => frozen_of_row _ Rb 1 _ 58 (HRB.out a b)
            have r2 : ∀ a b, ((wr.setCell ⟨Pb, 4, none⟩ a).setCell ⟨Pb, 5, none⟩ b).cell? ⟨Rb, 2, none⟩ = some (.int .i64 0) := fun a b => cell_of_row _ Rb 2 _ 58 (0, 0) (HRB.out a b)
            have z2 : ∀ a b, ((wr.setCell ⟨Pb, 4, none⟩ a).setCell ⟨Pb, 5, none⟩ b).frozen? ⟨Rb, 2, none⟩ = false := fun a b => frozen_of_row _ Rb 2 _ 58 (HRB.out a b)
            have r3 : ∀ a b, ((wr.setCell ⟨Pb, 4, none⟩ a).setCell ⟨Pb, 5, none⟩ b).cell? ⟨Rb, 3, none⟩ = some (.int .i64 0) := fun a b => cell_of_row _ Rb 3 _ 58 (0, 0) (HRB.out a b)
            have z3 : ∀ a b, ((wr.setCell ⟨Pb, 4, none⟩ a).setCell ⟨Pb, 5, none⟩ b).frozen? ⟨Rb, 3, none⟩ = false := fun a b => frozen_of_row _ Rb 3 _ 58 (HRB.out a b)
            have r4 : ∀ a b, ((wr.setCell ⟨Pb, 4, none⟩ a).setCell ⟨Pb, 5, none⟩ b).cell? ⟨Rb, 4, none⟩ = some (.int .i64 0) := fun a b => cell_of_row _ Rb 4 _ 58 (0, 0) (HRB.out a b)
            have z4 : ∀ a b, ((wr.setCell ⟨Pb, 4, none⟩ a).setCell ⟨Pb, 5, none⟩ b).frozen? ⟨Rb, 4, none⟩ = false := fun a b => frozen_of_row _ Rb 4 _ 58 (HRB.out a b)
            have r5 : ∀ a b, ((wr.setCell ⟨Pb, 4, none⟩ a).setCell ⟨Pb, 5, none⟩ b).cell? ⟨Rb, 5, none⟩ = some (.int .i64 0) := fun a b => cell_of_row _ Rb 5 _ 58 (0, 0) (HRB.out a b)
            have z5 : ∀ a b, ((wr.setCell ⟨Pb, 4, none⟩ a).setCell ⟨Pb, 5, none⟩ b).frozen? ⟨Rb, 5, none⟩ = false := fun a b => frozen_of_row _ Rb 5 _ 58 (HRB.out a b)
            go_wp2_with (go_at_call 46; refine (cA2.out _).mono ?_; rintro e w' ⟨rfl, rfl⟩)
            have hPB := HN3.out
            have hq5 := (hpq.out.set4 (.int .i64 (A2 : Int))).set5 (.int .i64 ((A2 : Int) + 256))
            exact bodyPost_ret (v := .agg #[.slice da L.length dc, .int .i64 (A : Int), .int .i64 ((A : Int) + 24 * (1 + (N.length : Int))), (.int .i64 ((A : Int) + 24 * (1 + (N.length : Int)) + 1 + (T : Int))), .int .i64 (A2 : Int), .int .i64 ((A2 : Int) + 256)]) (results_cell_row Tryz.results24 _ _ Rb 58 _ (0, 0) _ (by rfl) (set6_blk (HRB.out _ _) _ _ _ _ _ _) Tryz.underlying58 (by rfl) size46) rfl
              ⟨_, _, _, _, _, by rw [HZ.out]; rfl, own_leB (set6_own hq5.own (by omega) _ _ _ _ _ _) (by have := HB0.out; omega), set6_below (by rw [← HB0.out]; exact HB1.out.trans (hq5.below.mono (by omega))) (by have := HB0.out; omega) _ _ _ _ _ _, by
                have e1 : A = tabAt L := by unfold tabAt; rw [HAA.out, HSL.out]
                have e2 := HTN.out
                unfold PV; rw [if_neg HN0.out, ← e1, ← e2, ← HA23.out]; exact ⟨rfl, by omega, by omega, rfl⟩⟩
end Go.Proofs.YtheeogbmljjbdaaGreatDoor
namespace Go.Proofs.YtheeogbmljjbdaaGreatDoor
set_option linter.unusedVariables false
open Go.ChangeShapes Go.WideShapes Go.ChangeAt Go.RowKit Go.Deep
theorem Sub.zero {T : Nat → Int} {pos m : Nat} (h : Sub T pos (zs m)) (i : Nat) (h1 : pos ≤ i) (h2 : i < pos + m) : T i = 0 := by
  have e := h (i - pos) (by rw [zs_length]; omega)
  rw [zs_get, show pos + (i - pos) = i by omega] at e
  exact e
theorem ptL_zero (m : Nat) : ptL 0 m = zs m := by
  unfold ptL zs
  apply List.ext_getElem?
  intro i
  by_cases h : i < m
  · rw [List.getElem?_map, List.getElem?_range h, List.getElem?_replicate, if_pos h]
    simp
  · rw [List.getElem?_eq_none (by simp; omega), List.getElem?_eq_none (by simp; omega)]
theorem secL_zero : secL 0 0 0 0 0 0 0 0 = zs 64 := by decide +kernel
theorem head_eq (E se ml c t : Nat) : headR E se ml c t = headL E se ml c t := by
  have e : idL = sb idT ++ zs 9 := by decide +kernel
  simp only [headR, headL, nbs, e, List.append_assoc, List.append_nil]
/-- A part's bytes. -/
theorem sub_da {T : Nat → Int} {L : List Sg} {D : Nat → List Int} (hD : ∀ j, j < L.length → (D j).length = (sg L j).n) (k : Nat) (hk : k ≤ L.length) (h : Sub T (64 + 56 * L.length) (daL L D k)) (j : Nat) (hj : j < k) : Sub T (plc L j) (D j) := by
  induction k with
  | zero => omega
  | succ k ih =>
    have e : daL L D (k + 1) = daL L D k ++ if 0 < (sg L k).n then zs (al (sk L k) - sk L k) ++ D k else [] := rfl
    rw [e] at h
    by_cases c : j = k
    · subst c
      have hl := hD j (by omega)
      by_cases hn : 0 < (sg L j).n
      · rw [if_pos hn] at h
        have h1 := h.right.right
        rw [daL_length hD j (by omega), zs_length] at h1
        have h2 := al_lo (sk L j)
        exact h1.at (by unfold plc; rw [if_pos hn]; omega)
      · have : D j = [] := List.eq_nil_of_length_eq_zero (by omega)
        rw [this]
        exact Sub.nil
    · exact ih (by omega) h.left (by omega)
/-- Between the parts' bytes there is nothing. -/
theorem gap_da {T : Nat → Int} {L : List Sg} {D : Nat → List Int} (hD : ∀ j, j < L.length → (D j).length = (sg L j).n) (k : Nat) (hk : k ≤ L.length) (h : Sub T (64 + 56 * L.length) (daL L D k)) (i : Nat) (h1 : 64 + 56 * L.length ≤ i) (h2 : i < sk L k) (h3 : ¬ DS L k i) : T i = 0 := by
  induction k with
  | zero => have : sk L 0 = 64 + 56 * L.length := rfl; omega
  | succ k ih =>
    have e : daL L D (k + 1) = daL L D k ++ if 0 < (sg L k).n then zs (al (sk L k) - sk L k) ++ D k else [] := rfl
    have e2 : sk L (k + 1) = if 0 < (sg L k).n then al (sk L k) + (sg L k).n else sk L k := rfl
    rw [e] at h
    rw [e2] at h2
    have h4 := fun q => h3 ((DS_succ L k i).2 q)
    by_cases c : i < sk L k
    · exact ih (by omega) h.left c (fun q => h4 (.inl q))
    · by_cases hn : 0 < (sg L k).n
      · rw [if_pos hn] at h h2
        have h5 := al_lo (sk L k)
        have hz := h.right.left
        rw [daL_length hD k (by omega)] at hz
        by_cases c2 : i < al (sk L k)
        · exact hz.zero i (by omega) (by omega)
        · exact absurd (Or.inr (by unfold plc; rw [if_pos hn]; omega)) h4
      · rw [if_neg hn] at h2
        omega
theorem plc_le (L : List Sg) (m j : Nat) (hj : j < m) : plc L j + (sg L j).n ≤ sk L m := by
  have e2 : sk L (j + 1) = if 0 < (sg L j).n then al (sk L j) + (sg L j).n else sk L j := rfl
  have h := sk_mono L (show j + 1 ≤ m by omega)
  rw [e2] at h
  unfold plc
  split
  · rename_i c; rw [if_pos c] at h; exact h
  · omega
theorem sk_lo (L : List Sg) (k : Nat) : 64 + 56 * L.length ≤ sk L k := sk_mono L (Nat.zero_le k)
/-- The file of an image without names. -/
def flZ (E : Nat) (L : List Sg) (D : Nat → List Int) : List Int := headL E 0 L.length 0 0 ++ (hdL L L.length ++ daL L D L.length)
/-- The file of an image with names. -/
def flA (E : Nat) (L : List Sg) (N : List Sy) (D : Nat → List Int) : List Int := headL E (szz L N - 256) L.length 4 3 ++ (hdL L L.length ++ (daL L D L.length ++ (zs (tabAt L - sk L L.length) ++ symL (tabAt L) N)))
theorem flZ_length {E : Nat} {L : List Sg} {D : Nat → List Int} (hD : ∀ j, j < L.length → (D j).length = (sg L j).n) : (flZ E L D).length = sk L L.length := by
  have h := daL_length hD L.length (Nat.le_refl _)
  simp only [flZ, List.length_append, headL_length, hdL_length]
  omega
/-- Where the names' things stand. -/
structure LyA (T : Nat → Int) (E : Nat) (L : List Sg) (N : List Sy) (D : Nat → List Int) (tb tx ow se : Nat) : Prop where
  head : Sub T 0 (headR E se L.length 4 3)
  hd : Sub T 64 (hdL L L.length)
  da : Sub T (64 + 56 * L.length) (daL L D L.length)
  z1 : Sub T (sk L L.length) (zs (tb - sk L L.length))
  z2 : Sub T tb (zs 24)
  tab : Sub T (tb + 24) (tbL N N.length)
  txt : Sub T tx (txL N N.length)
  own : Sub T ow (sb ownT)
  z3 : Sub T (ow + 27) (zs (se - (ow + 27)))
  z4 : Sub T se (zs 64)
  sec : Sub T (se + 64) (secR tb (24 + 24 * N.length) tx (1 + nk N N.length) ow)
theorem lay_a {T : Nat → Int} {E : Nat} {L : List Sg} {N : List Sy} {D : Nat → List Int} (hD : ∀ j, j < L.length → (D j).length = (sg L j).n) (hn0 : 0 < N.length) (h : Sub T 0 (flA E L N D)) (tb tx ow se : Nat) (h1 : tb = tabAt L) (h2 : tx = tabAt L + 24 + 24 * N.length) (h3 : ow = tabAt L + 24 + 24 * N.length + 1 + nk N N.length) (h4 : se = al (tabAt L + 24 + 24 * N.length + 1 + nk N N.length + 27)) : LyA T E L N D tb tx ow se := by
  have hz : szz L N = al (tabAt L + 24 + 24 * N.length + 1 + nk N N.length + 27) + 256 := by unfold szz; rw [if_neg (by omega)]
  have hs : szz L N - 256 = se := by omega
  have hl := daL_length hD L.length (Nat.le_refl _)
  have ht := al_lo (sk L L.length)
  have ha := al_lo (ow + 27)
  have et : tabAt L = al (sk L L.length) := rfl
  unfold flA at h
  rw [hs] at h
  have q1 := h.left
  have h := h.right
  rw [headL_length] at h
  have q2 := h.left
  have h := h.right
  rw [hdL_length] at h
  have h := h.at (show 0 + 64 + 56 * L.length = 64 + 56 * L.length by omega)
  have q3 := h.left
  have h := h.right.at hl
  have q4 := h.left
  have h := h.right.at (show sk L L.length + (zs (tabAt L - sk L L.length)).length = tabAt L by rw [zs_length]; omega)
  unfold symL at h
  have q5 := h.left
  have h := h.right.at (show tabAt L + (ptL 0 24).length = tabAt L + 24 by rw [ptL_length])
  have q6 := h.left
  have h := h.right.at (show tabAt L + 24 + (tbL N N.length).length = tx by rw [tbL_length]; omega)
  have q7 := h.left
  have h := h.right.at (show tx + (txL N N.length).length = ow by rw [txL_length]; omega)
  have q8 := h.left
  have h := h.right.at (show ow + (sb ownT).length = ow + 27 by rw [sb_length, ownT_size])
  rw [show tabAt L + 24 + 24 * N.length + 1 + nk N N.length + 27 = ow + 27 by omega] at h h4
  have q9 := h.left
  have h := h.right.at (show ow + 27 + (zs (al (ow + 27) - (ow + 27))).length = se by rw [zs_length]; omega)
  have q10 := h.left
  have h := h.right.at (show se + (secL 0 0 0 0 0 0 0 0).length = se + 64 by rw [secL_length])
  rw [secL_zero] at q10
  rw [ptL_zero] at q5
  rw [show tabAt L + 24 + 24 * N.length + 1 + nk N N.length = ow by omega, show tabAt L + 24 + 24 * N.length = tx by omega, ← h1] at h
  exact ⟨by rw [head_eq]; exact q1, q2, q3, by rw [h1]; exact q4, by rw [h1]; exact q5, by rw [h1]; exact q6, q7, q8, by rw [h4]; exact q9, q10, by rw [secR_eq]; exact h⟩
theorem flA_length {E : Nat} {L : List Sg} {N : List Sy} {D : Nat → List Int} (hD : ∀ j, j < L.length → (D j).length = (sg L j).n) (hn0 : 0 < N.length) : (flA E L N D).length = szz L N := by
  have hz : szz L N = al (tabAt L + 24 + 24 * N.length + 1 + nk N N.length + 27) + 256 := by unfold szz; rw [if_neg (by omega)]
  have h := daL_length hD L.length (Nat.le_refl _)
  have ht := al_lo (sk L L.length)
  have et : tabAt L = al (sk L L.length) := rfl
  have ha := al_lo (tabAt L + 24 + 24 * N.length + 1 + nk N N.length + 27)
  rw [hz]
  simp only [flA, symL, List.length_append, headL_length, hdL_length, zs_length, ptL_length, tbL_length, txL_length, sb_length, ownT_size, secL_length]
  omega
/-- What was not written is 0. -/
theorem LyA.rest {T : Nat → Int} {E : Nat} {L : List Sg} {N : List Sy} {D : Nat → List Int} {tb tx ow se : Nat} (h : LyA T E L N D tb tx ow se) (hD : ∀ j, j < L.length → (D j).length = (sg L j).n) (h1 : tb = tabAt L) (h2 : tx = tb + 24 + 24 * N.length) (h3 : ow = tx + 1 + nk N N.length) (h4 : se = al (ow + 27)) (i : Nat) (hi : i < se + 256)
    (n1 : ¬ i < 64) (n2 : ¬ (64 ≤ i ∧ i < 64 + 56 * L.length)) (n3 : ¬ DS L L.length i) (n4 : ¬ (tx + 1 ≤ i ∧ i < tx + 1 + nk N N.length)) (n5 : ¬ (tb + 24 ≤ i ∧ i < tb + 24 + 24 * N.length)) (n6 : ¬ (ow ≤ i ∧ i < ow + 27)) (n7 : ¬ (se + 64 ≤ i ∧ i < se + 256)) : T i = 0 := by
  have ht := al_lo (sk L L.length)
  have et : tabAt L = al (sk L L.length) := rfl
  have ha := al_lo (ow + 27)
  have hs := sk_lo L L.length
  by_cases c1 : i < sk L L.length
  · exact gap_da hD L.length (Nat.le_refl _) h.da i (by omega) c1 n3
  by_cases c2 : i < tb
  · exact h.z1.zero i (by omega) (by omega)
  by_cases c3 : i < tb + 24
  · exact h.z2.zero i (by omega) (by omega)
  by_cases c4 : i = tx
  · subst c4
    have e := h.txt 0 (by rw [txL_length]; omega)
    rw [Nat.add_zero] at e
    rw [e, List.getD_eq_getElem?_getD, ← List.head?_eq_getElem?, txL_head]
    rfl
  by_cases c5 : i < se
  · exact h.z3.zero i (by omega) (by omega)
  exact h.z4.zero i (by omega) (by omega)
end Go.Proofs.YtheeogbmljjbdaaGreatDoor
