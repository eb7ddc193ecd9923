/-
  Write of the reference: the walk.
-/
import Derived.Test.YtjjdpfmkbaaapaaDoorIwe
namespace Go.Proofs.YtjjdpfmkbaaapaaDoor
set_option linter.unusedVariables false
open Go.ChangeShapes Go.WideShapes Go.ChangeAt Go.RowKit Go.Deep
theorem Pr.made {B : Nat} {w : World} (hB : B ≤ w.heap.size) : Pr B (w.alloc (.cells #[.int .u8 127, .int .u8 69, .int .u8 76, .int .u8 70, .int .u8 2, .int .u8 1, .int .u8 1, .int .u8 0, .int .u8 0, .int .u8 0, .int .u8 0, .int .u8 0, .int .u8 0, .int .u8 0, .int .u8 0, .int .u8 0] 5)) (.slice (some ⟨w.heap.size, 0, none⟩) 16 16) idL (.slice none 0 0) [] :=
  ⟨⟨rfl, .inr ⟨w.heap.size, 16, #[.int .u8 127, .int .u8 69, .int .u8 76, .int .u8 70, .int .u8 2, .int .u8 1, .int .u8 1, .int .u8 0, .int .u8 0, .int .u8 0, .int .u8 0, .int .u8 0, .int .u8 0, .int .u8 0, .int .u8 0, .int .u8 0], rfl, hB, heap_alloc_new w _, Nat.le_refl _, by unfold maxLen; omega, rfl, rfl⟩⟩, World.ownsRow_nil _ _ _ _, rfl, .inl rfl⟩
set_option maxRecDepth 10000 in
set_option maxHeartbeats 8000000 in
theorem rwrite_a (E : BitVec 64) (vs vn : Value) (L : List Sg) (N : List Sy) (D : Nat → List Int) (hn0 : 0 < N.length) (hL : L.length ≤ 16) (hN : N.length ≤ 400) (hR : ck E L N = 0) (hZ : szz L N ≤ 200000) (hF : ∀ j, j < L.length → 0 ≤ (sg L j).f ∧ (sg L j).f ≤ 7) (w : World) (hi : Img w vs vn L N) (hd : Dts w L D) (hT : Hid (Tabs w)) :
    Calls Tryd.prog 6 #[.agg #[.int .u64 (n64 E), vs, vn]] w fun e w' => ∃ v t s, e = .returned (.tuple #[v, .int .i64 0]) ∧ Pr (w.heap.size + 1) w' v (headL E.toNat (szz L N - 256) L.length 4 3 ++ (hdL L L.length ++ (daL L D L.length ++ (zs (tabAt L - sk L L.length) ++ symL (tabAt L) N)))) t s ∧ Below w.heap.size w w' := by
  have HI : Hid (Img w vs vn L N) := hi
  have HD : Hid (Dts w L D) := hd
  have HZ : Hid (szz L N ≤ 200000) := hZ
  have HF0 : Hid (∀ j, j < L.length → 0 ≤ (sg L j).f ∧ (sg L j).f ≤ 7) := hF
  obtain ⟨sa, sc, rfl, _, _⟩ := hi.segs
  obtain ⟨na, nc, rfl, _, _⟩ := hi.syms
  clear hi hd hZ hF
  have HR : Hid ((0 : Int) = ck E L N) := hR.symm
  clear hR
  have HB1 : Hid (Below w.heap.size w (w.alloc (.cells #[.int .u64 (n64 E), .slice sa L.length sc, .slice na N.length nc] 26))) := (Below.refl _ _).alloc (Nat.le_refl _) _
  have HM : Hid (∀ w', Below (w.heap.size + 1) (w.alloc (.cells #[.int .u64 (n64 E), .slice sa L.length sc, .slice na N.length nc] 26)) w' → w'.cell? ⟨w.heap.size, 0, none⟩ = some (.int .u64 (n64 E)) ∧ w'.cell? ⟨w.heap.size, 1, none⟩ = some (.slice sa L.length sc) ∧ w'.cell? ⟨w.heap.size, 2, none⟩ = some (.slice na N.length nc)) := fun w' hb =>
    ⟨(hb.cell (Nat.lt_succ_self _)).trans (by simp), (hb.cell (Nat.lt_succ_self _)).trans (by simp), (hb.cell (Nat.lt_succ_self _)).trans (by simp)⟩
  have HS1 : Hid ((w.alloc (.cells #[.int .u64 (n64 E), .slice sa L.length sc, .slice na N.length nc] 26)).heap.size = w.heap.size + 1) := by unfold Hid; simp
  obtain ⟨m0, m1, m2⟩ := HM.out _ (Below.refl _ _)
  go_enter Tryd.func6, Tryd.ntmps6
  go_wp2_with fail
  generalize hw1 : w.alloc (.cells #[.int .u64 (n64 E), .slice sa L.length sc, .slice na N.length nc] 26) = w1 at *
  clear hw1
  obtain ⟨Mb, hMb⟩ : ∃ Mb, Mb = w.heap.size := ⟨_, rfl⟩
  rw [← hMb] at m0 m1 m2 HM HS1 ⊢
  have HMb : Hid (Mb = w.heap.size) := hMb
  clear hMb
  obtain ⟨B, hB⟩ : ∃ B, B = Mb + 1 := ⟨_, rfl⟩
  rw [← hB] at HM HS1
  have HBB : Hid (B = Mb + 1) := hB
  clear hB
  have HBW : Hid (B ≤ w1.heap.size) := by unfold Hid; rw [HS1.out]; exact Nat.le_refl _
  have HI1 : Hid (Img w1 (.slice sa L.length sc) (.slice na N.length nc) L N) := HI.out.later HB1.out rfl
  have HT1 : Hid (Tabs w1) := hT.out.below HB1.out rfl
  have HD1 : Hid (Dts w1 L D) := HD.out.later HB1.out
  have cR := rcheck_c E (.slice sa L.length sc) (.slice na N.length nc) L N (by omega) (by omega) w1 HI1.out HT1
  rw [← HR.out] at cR
  have hn1 : (0 : Int) < (N.length : Int) := by omega
  have hZs : szz L N ≤ 200000 := HZ.out
  obtain ⟨Z, hZ0⟩ : ∃ Z, Z = szz L N := ⟨_, rfl⟩
  have hZg : 256 ≤ Z := by rw [hZ0]; unfold szz; rw [if_neg (by omega)]; omega
  rw [← hZ0] at hZs
  have HZ0 : Hid (Z = szz L N) := hZ0
  clear hZ0
  go_wp2_with (go_at_call 13; refine cR.mono ?_; rintro e w2 ⟨rfl, hb2⟩; obtain ⟨m0, m1, m2⟩ := HM.out w2 (hb2.mono HBW.out); have HB2 : Hid (Below w1.heap.size w1 w2) := hb2; have HMl : Hid (Mb < w2.heap.size) := (by have h1 := HBB.out; have h2 := HBW.out; have h3 := hb2.size; unfold Hid; omega); have ma : ∀ o, (w2.alloc o).cell? ⟨Mb, 2, none⟩ = some (.slice na N.length nc) := fun o => (World.cell?_alloc_past _ _ _ HMl.out).trans m2; have ma1 : ∀ o, (w2.alloc o).cell? ⟨Mb, 1, none⟩ = some (.slice sa L.length sc) := fun o => (World.cell?_alloc_past _ _ _ HMl.out).trans m1; have ma0 : ∀ o, (w2.alloc o).cell? ⟨Mb, 0, none⟩ = some (.int .u64 (n64 E)) := fun o => (World.cell?_alloc_past _ _ _ HMl.out).trans m0; clear hb2)
  clear ma ma0 ma1
  have HBs2 : Hid (B ≤ w2.heap.size) := Nat.le_trans HBW.out HB2.out.size
  have hpc : Hid (Pr B (w2.alloc (.cells #[.int .u8 127, .int .u8 69, .int .u8 76, .int .u8 70, .int .u8 2, .int .u8 1, .int .u8 1, .int .u8 0, .int .u8 0, .int .u8 0, .int .u8 0, .int .u8 0, .int .u8 0, .int .u8 0, .int .u8 0, .int .u8 0] 5)) (.slice (some ⟨w2.heap.size, 0, none⟩) 16 16) idL (.slice none 0 0) []) := Pr.made HBs2.out
  have hbc : Hid (Fr B w1 (w2.alloc (.cells #[.int .u8 127, .int .u8 69, .int .u8 76, .int .u8 70, .int .u8 2, .int .u8 1, .int .u8 1, .int .u8 0, .int .u8 0, .int .u8 0, .int .u8 0, .int .u8 0, .int .u8 0, .int .u8 0, .int .u8 0, .int .u8 0] 5))) := (Fr.of_below HB2.out HBW.out).alloc HBs2.out _
  have HB3 : Hid (Below w1.heap.size w1 (w2.alloc (.cells #[.int .u8 127, .int .u8 69, .int .u8 76, .int .u8 70, .int .u8 2, .int .u8 1, .int .u8 1, .int .u8 0, .int .u8 0, .int .u8 0, .int .u8 0, .int .u8 0, .int .u8 0, .int .u8 0, .int .u8 0, .int .u8 0] 5))) := HB2.out.alloc HB2.out.size _
  obtain ⟨m0, m1, m2⟩ := HM.out _ hbc.out.b
  generalize hw3 : w2.alloc (.cells #[.int .u8 127, .int .u8 69, .int .u8 76, .int .u8 70, .int .u8 2, .int .u8 1, .int .u8 1, .int .u8 0, .int .u8 0, .int .u8 0, .int .u8 0, .int .u8 0, .int .u8 0, .int .u8 0, .int .u8 0, .int .u8 0] 5) = w3 at *
  obtain ⟨bA, hbA⟩ : ∃ bA, bA = w2.heap.size := ⟨_, rfl⟩
  rw [← hbA] at hpc ⊢
  clear hw3 hbA
  have HI3 : Hid (Img w3 (.slice sa L.length sc) (.slice na N.length nc) L N) := HI1.out.later HB3.out rfl
  have hE1 : 0 ≤ n64 E := by unfold n64; omega
  have hE2 : n64 E < 18446744073709551616 := by unfold n64; have := E.isLt; omega
  have HE3 : Hid ((n64 E).toNat = E.toNat) := by unfold Hid n64; omega
  have cS := size_c E (.slice sa L.length sc) (.slice na N.length nc) L N hL hN w3 HI3.out
  rw [← HZ0.out] at cS
  go_wp2_with (go_at_call 14; refine cS.mono ?_; rintro e w4 ⟨rfl, hb4⟩; have hpc : Hid (Pr B w4 _ idL (.slice none 0 0) []) := hpc.out.later hb4; have hbc : Hid (Fr B w1 w4) := hbc.out.trans (Fr.of_below hb4 (Nat.le_trans HBW.out HB3.out.size)); obtain ⟨m0, m1, m2⟩ := HM.out _ hbc.out.b; clear hb4)
  have HLi : Hid (idL.length = 16) := rfl
  go_wp2_with (go_at_call 15; refine (rnum_z B _ (.slice none 0 0) _ [] _ _ _ hpc.out (by omega) (by omega) (by omega) (by omega) (by have h := HLi.out; (try simp only [List.length_append, ptL_length]); omega) (Nat.le_trans HBW.out hbc.out.b.size)).mono ?_; rintro e w' ⟨v, rfl, hpn, hbn⟩; have hpc : Hid (Pr B w' v _ (.slice none 0 0) []) := hpn; have hbc : Hid (Fr B w1 w') := hbc.out.trans hbn; obtain ⟨m0, m1, m2⟩ := HM.out _ hbc.out.b; clear hpn hbn)
  obtain ⟨H0, hH0⟩ : ∃ H0, H0 = headL E.toNat (szz L N - 256) L.length 4 3 := ⟨_, rfl⟩
  have HH0 : Hid (H0 = headL E.toNat (szz L N - 256) L.length 4 3) := hH0
  have HH1 : Hid (H0.length = 64) := by unfold Hid; rw [hH0]; exact headL_length _ _ _ _ _
  clear hH0
  obtain ⟨lc, hlc⟩ : ∃ lc, lc = idL ++ ptL (Int.toNat 2) (Int.toNat 2) ++ ptL (Int.toNat 243) (Int.toNat 2) ++ ptL (Int.toNat 1) (Int.toNat 4) ++ ptL (n64 E).toNat (Int.toNat 8) ++ ptL (Int.toNat 64) (Int.toNat 8) ++ ptL (((Z : Int) - 256).toNat) (Int.toNat 8) ++ ptL (Int.toNat 1) (Int.toNat 4) ++ ptL (Int.toNat 64) (Int.toNat 2) ++ ptL (Int.toNat 56) (Int.toNat 2) ++ ptL ((L.length : Int)).toNat (Int.toNat 2) ++ ptL (Int.toNat 64) (Int.toNat 2) ++ ptL (Int.toNat 4) (Int.toNat 2) ++ ptL (Int.toNat 3) (Int.toNat 2) := ⟨_, rfl⟩
  have hpc0 := hpc.out
  rw [show idL ++ ptL (Int.toNat 2) (Int.toNat 2) ++ ptL (Int.toNat 243) (Int.toNat 2) ++ ptL (Int.toNat 1) (Int.toNat 4) ++ ptL (n64 E).toNat (Int.toNat 8) ++ ptL (Int.toNat 64) (Int.toNat 8) ++ ptL (((Z : Int) - 256).toNat) (Int.toNat 8) ++ ptL (Int.toNat 1) (Int.toNat 4) ++ ptL (Int.toNat 64) (Int.toNat 2) ++ ptL (Int.toNat 56) (Int.toNat 2) ++ ptL ((L.length : Int)).toNat (Int.toNat 2) ++ ptL (Int.toNat 64) (Int.toNat 2) ++ ptL (Int.toNat 4) (Int.toNat 2) ++ ptL (Int.toNat 3) (Int.toNat 2) = H0 by rw [HH0.out, headL]; simp only [List.append_assoc]; rw [HE3.out, show ((Z : Int) - 256).toNat = szz L N - 256 by rw [← HZ0.out]; omega]; rfl] at hpc0
  have hpc : Hid (Pr B _ _ H0 (.slice none 0 0) []) := hpc0
  clear hpc0 hlc
  go_loopw [5, 9, 10] (fun b at_ i wr => ∃ k : Nat, k ≤ L.length ∧ i = .int .i64 k ∧ at_ = .int .i64 ((sk L k : Nat) : Int) ∧ Hid (Pr B wr b (H0 ++ hdL L k) (.slice none 0 0) []) ∧ Hid (Fr B w1 wr)) (fun _ _ i _ => L.length - (intOf i).toNat)
  case atStart => exact ⟨0, Nat.zero_le _, rfl, by simp [sk], by rw [hdL, List.append_nil]; exact hpc, hbc⟩
  case round =>
    obtain ⟨k, hk, rfl, rfl, hpr, hbel⟩ := hrel
    obtain ⟨m0, m1, m2⟩ := HM.out _ hbel.out.b
    have HBr : Hid (B ≤ wr.heap.size) := Nat.le_trans HBW.out hbel.out.b.size
    have hskk := sk_mono L hk
    have hskz : sk L L.length ≤ 200000 := by have h := HZ.out; have h2 := al_lo (sk L L.length); have h3 := al_lo (tabAt L + 24 + 24 * N.length + 1 + nk N N.length + 27); unfold szz at h; unfold tabAt at *; split at h <;> omega
    by_cases hlt : k < L.length
    · have hlt2 : (k : Int) < (L.length : Int) := by omega
      have hskk2 := sk_mono L (show k + 1 ≤ L.length by omega)
      obtain ⟨_, _, he, _, hcc⟩ := HI1.out.segs
      cases he
      obtain ⟨g, off, rfl, hg, hcells⟩ := hcc (by intro e; have := congrArg List.length e; simp only [List.length_nil] at this; omega)
      obtain ⟨c0, c1, c2, c3⟩ := hcells k hlt
      have hgB : g < B := by rw [← HS1.out]; exact hg
      have b0 := (hbel.out.b.cell hgB).trans c0
      have b1 := (hbel.out.b.cell hgB).trans c1
      have b2 := (hbel.out.b.cell hgB).trans c2
      have b3 := (hbel.out.b.cell hgB).trans c3
      clear hcells hcc c0 c1 c2 c3
      have hff := HF0.out k hlt
      obtain ⟨x, hx⟩ : ∃ x, x = sg L k := ⟨_, rfl⟩
      rw [← hx] at b0 b1 b2 b3 hff
      obtain ⟨hf0, hf7⟩ := hff
      obtain ⟨S, hS⟩ : ∃ S, S = sk L k := ⟨_, rfl⟩
      rw [← hS] at hskk ⊢
      have HX : Hid (x = sg L k) := hx
      have HSS : Hid (S = sk L k) := hS
      have HSk : Hid (sk L (k + 1) = if 0 < x.n then al S + x.n else S) := by unfold Hid; rw [sk, ← HX.out, ← HSS.out]
      clear hx hS
      by_cases hn0 : 0 < x.n
      · have hn0' : (0 : Int) < (x.n : Int) := by omega
        have ha := al_lo S
        have hxn : al S + x.n ≤ 200000 := by have h := HSk.out; rw [if_pos hn0] at h; omega
        obtain ⟨A, hA⟩ : ∃ A, A = al S := ⟨_, rfl⟩
        have cA : ∀ w', Calls Tryd.prog 16 #[.int .i64 (S : Int)] w' fun e w'' => e = .returned (.int .i64 (A : Int)) ∧ w' = w'' := fun w' => by rw [hA]; exact (up_c S (by omega) w').mono fun _ _ ⟨h1, h2⟩ => ⟨h1, h2.symm⟩
        rw [← hA] at ha hxn
        have HAA : Hid (A = al S) := hA
        clear hA
        go_wp2_with (go_at_call 16; refine (cA _).mono ?_; rintro e w' ⟨rfl, rfl⟩)
        have hpc : Hid (Pr B (wr.alloc (.cells #[.int .u64 (n64 x.a), .int .u64 (n64 x.s), .int .i64 x.f, .slice x.m x.n x.c] 38)) _ (H0 ++ hdL L k) (.slice none 0 0) []) := ⟨hpr.out.b.alloc _, hpr.out.t.alloc _, hpr.out.h, hpr.out.k⟩
        have hbc : Hid (Fr B w1 (wr.alloc (.cells #[.int .u64 (n64 x.a), .int .u64 (n64 x.s), .int .i64 x.f, .slice x.m x.n x.c] 38))) := hbel.out.alloc HBr.out _
        have hbk : Hid ((wr.alloc (.cells #[.int .u64 (n64 x.a), .int .u64 (n64 x.s), .int .i64 x.f, .slice x.m x.n x.c] 38)).heap[wr.heap.size]? = some (.cells #[.int .u64 (n64 x.a), .int .u64 (n64 x.s), .int .i64 x.f, .slice x.m x.n x.c] 38 (0, 0))) := heap_alloc_new wr _
        obtain ⟨m0, m1, m2⟩ := HM.out _ hbc.out.b
        clear b0 b1 b2 b3 hpr hbel
        generalize wr.alloc (.cells #[.int .u64 (n64 x.a), .int .u64 (n64 x.s), .int .i64 x.f, .slice x.m x.n x.c] 38) = w5 at *
        obtain ⟨Sb, hSb⟩ : ∃ Sb, Sb = wr.heap.size := ⟨_, rfl⟩
        rw [← hSb] at hbk ⊢
        clear hSb
        have HQ : Hid (∀ w' : World, w'.heap[Sb]? = some (.cells #[.int .u64 (n64 x.a), .int .u64 (n64 x.s), .int .i64 x.f, .slice x.m x.n x.c] 38 (0, 0)) → w'.cell? ⟨Sb, 0, none⟩ = some (.int .u64 (n64 x.a)) ∧ w'.cell? ⟨Sb, 1, none⟩ = some (.int .u64 (n64 x.s)) ∧ w'.cell? ⟨Sb, 2, none⟩ = some (.int .i64 x.f) ∧ w'.cell? ⟨Sb, 3, none⟩ = some (.slice x.m x.n x.c)) := fun w' h => ⟨cell_of_row w' Sb 0 _ _ _ h, cell_of_row w' Sb 1 _ _ _ h, cell_of_row w' Sb 2 _ _ _ h, cell_of_row w' Sb 3 _ _ _ h⟩
        obtain ⟨q0, q1, q2, q3⟩ := HQ.out _ hbk.out
        obtain ⟨W, hW⟩ : ∃ W, W = fw x.f := ⟨_, rfl⟩
        have hWi : x.f / 4 % 2 + x.f / 2 % 2 * 2 + x.f % 2 * 4 = (W : Int) := by rw [hW]; unfold fw; omega
        have hW7 : W ≤ 7 := by omega
        rw [hWi]
        have HW : Hid (W = fw x.f) := hW
        clear hW hWi
        have ha1 : 0 ≤ n64 x.a := by unfold n64; omega
        have ha2 : n64 x.a < 18446744073709551616 := by unfold n64; have := x.a.isLt; omega
        have HA3 : Hid ((n64 x.a).toNat = x.a.toNat) := by unfold Hid n64; omega
        have hs1 : 0 ≤ n64 x.s := by unfold n64; omega
        have hs2 : n64 x.s < 18446744073709551616 := by unfold n64; have := x.s.isLt; omega
        have HS3 : Hid ((n64 x.s).toNat = x.s.toNat) := by unfold Hid n64; omega
        go_wp2_with (go_at_call 15; refine (rnum_z B _ (.slice none 0 0) _ [] _ _ _ hpc.out (by omega) (by omega) (by omega) (by omega) (by have h := HH1.out; have h2 := hdL_length L k; simp only [List.length_append, ptL_length, h2]; omega) (Nat.le_trans HBW.out hbc.out.b.size)).mono ?_; rintro e w' ⟨v, rfl, hpn, hbn⟩; have hpc : Hid (Pr B w' v _ (.slice none 0 0) []) := hpn; have hbc : Hid (Fr B w1 w') := hbc.out.trans hbn; obtain ⟨m0, m1, m2⟩ := HM.out _ hbc.out.b; have hbk : Hid (w'.heap[Sb]? = some (.cells #[.int .u64 (n64 x.a), .int .u64 (n64 x.s), .int .i64 x.f, .slice x.m x.n x.c] 38 (0, 0))) := hbn.k _ _ _ _ (by decide) hbk.out; obtain ⟨q0, q1, q2, q3⟩ := HQ.out _ hbk.out; clear hpn hbn)
        go_roundw
        case rel =>
          refine ⟨k + 1, by omega, by go_num, by rw [HSk.out, if_pos hn0, ← HAA.out]; go_num, ?_, hbc⟩
          have e : H0 ++ hdL L k ++ ptL (Int.toNat 1) (Int.toNat 4) ++ ptL ((W : Int)).toNat (Int.toNat 4) ++ ptL (((A : Int)).toNat) (Int.toNat 8) ++ ptL (n64 x.a).toNat (Int.toNat 8) ++ ptL (n64 x.a).toNat (Int.toNat 8) ++ ptL ((x.n : Int)).toNat (Int.toNat 8) ++ ptL (n64 x.s).toNat (Int.toNat 8) ++ ptL (Int.toNat 1) (Int.toNat 8) = H0 ++ hdL L (k + 1) := by
            rw [hdL, phL, ← HX.out, HA3.out, HS3.out, plc, ← HX.out, if_pos hn0, ← HSS.out, ← HAA.out, ← HW.out]
            simp only [List.append_assoc]
            rfl
          unfold Hid
          rw [← e]
          exact hpc.out
        case measure => simp [intOf]; omega
      · have hn0' : ¬ (0 : Int) < (x.n : Int) := by omega
        go_wp2_with fail
        have hpc : Hid (Pr B (wr.alloc (.cells #[.int .u64 (n64 x.a), .int .u64 (n64 x.s), .int .i64 x.f, .slice x.m x.n x.c] 38)) _ (H0 ++ hdL L k) (.slice none 0 0) []) := ⟨hpr.out.b.alloc _, hpr.out.t.alloc _, hpr.out.h, hpr.out.k⟩
        have hbc : Hid (Fr B w1 (wr.alloc (.cells #[.int .u64 (n64 x.a), .int .u64 (n64 x.s), .int .i64 x.f, .slice x.m x.n x.c] 38))) := hbel.out.alloc HBr.out _
        have hbk : Hid ((wr.alloc (.cells #[.int .u64 (n64 x.a), .int .u64 (n64 x.s), .int .i64 x.f, .slice x.m x.n x.c] 38)).heap[wr.heap.size]? = some (.cells #[.int .u64 (n64 x.a), .int .u64 (n64 x.s), .int .i64 x.f, .slice x.m x.n x.c] 38 (0, 0))) := heap_alloc_new wr _
        obtain ⟨m0, m1, m2⟩ := HM.out _ hbc.out.b
        clear b0 b1 b2 b3 hpr hbel
        generalize wr.alloc (.cells #[.int .u64 (n64 x.a), .int .u64 (n64 x.s), .int .i64 x.f, .slice x.m x.n x.c] 38) = w5 at *
        obtain ⟨Sb, hSb⟩ : ∃ Sb, Sb = wr.heap.size := ⟨_, rfl⟩
        rw [← hSb] at hbk ⊢
        clear hSb
        have HQ : Hid (∀ w' : World, w'.heap[Sb]? = some (.cells #[.int .u64 (n64 x.a), .int .u64 (n64 x.s), .int .i64 x.f, .slice x.m x.n x.c] 38 (0, 0)) → w'.cell? ⟨Sb, 0, none⟩ = some (.int .u64 (n64 x.a)) ∧ w'.cell? ⟨Sb, 1, none⟩ = some (.int .u64 (n64 x.s)) ∧ w'.cell? ⟨Sb, 2, none⟩ = some (.int .i64 x.f) ∧ w'.cell? ⟨Sb, 3, none⟩ = some (.slice x.m x.n x.c)) := fun w' h => ⟨cell_of_row w' Sb 0 _ _ _ h, cell_of_row w' Sb 1 _ _ _ h, cell_of_row w' Sb 2 _ _ _ h, cell_of_row w' Sb 3 _ _ _ h⟩
        obtain ⟨q0, q1, q2, q3⟩ := HQ.out _ hbk.out
        obtain ⟨W, hW⟩ : ∃ W, W = fw x.f := ⟨_, rfl⟩
        have hWi : x.f / 4 % 2 + x.f / 2 % 2 * 2 + x.f % 2 * 4 = (W : Int) := by rw [hW]; unfold fw; omega
        have hW7 : W ≤ 7 := by omega
        rw [hWi]
        have HW : Hid (W = fw x.f) := hW
        clear hW hWi
        have ha1 : 0 ≤ n64 x.a := by unfold n64; omega
        have ha2 : n64 x.a < 18446744073709551616 := by unfold n64; have := x.a.isLt; omega
        have HA3 : Hid ((n64 x.a).toNat = x.a.toNat) := by unfold Hid n64; omega
        have hs1 : 0 ≤ n64 x.s := by unfold n64; omega
        have hs2 : n64 x.s < 18446744073709551616 := by unfold n64; have := x.s.isLt; omega
        have HS3 : Hid ((n64 x.s).toNat = x.s.toNat) := by unfold Hid n64; omega
        go_wp2_with (go_at_call 15; refine (rnum_z B _ (.slice none 0 0) _ [] _ _ _ hpc.out (by omega) (by omega) (by omega) (by omega) (by have h := HH1.out; have h2 := hdL_length L k; simp only [List.length_append, ptL_length, h2]; omega) (Nat.le_trans HBW.out hbc.out.b.size)).mono ?_; rintro e w' ⟨v, rfl, hpn, hbn⟩; have hpc : Hid (Pr B w' v _ (.slice none 0 0) []) := hpn; have hbc : Hid (Fr B w1 w') := hbc.out.trans hbn; obtain ⟨m0, m1, m2⟩ := HM.out _ hbc.out.b; have hbk : Hid (w'.heap[Sb]? = some (.cells #[.int .u64 (n64 x.a), .int .u64 (n64 x.s), .int .i64 x.f, .slice x.m x.n x.c] 38 (0, 0))) := hbn.k _ _ _ _ (by decide) hbk.out; obtain ⟨q0, q1, q2, q3⟩ := HQ.out _ hbk.out; clear hpn hbn)
        go_roundw
        case rel =>
          refine ⟨k + 1, by omega, by go_num, by rw [HSk.out, if_neg hn0], ?_, hbc⟩
          have e : H0 ++ hdL L k ++ ptL (Int.toNat 1) (Int.toNat 4) ++ ptL ((W : Int)).toNat (Int.toNat 4) ++ ptL (Int.toNat 0) (Int.toNat 8) ++ ptL (n64 x.a).toNat (Int.toNat 8) ++ ptL (n64 x.a).toNat (Int.toNat 8) ++ ptL ((x.n : Int)).toNat (Int.toNat 8) ++ ptL (n64 x.s).toNat (Int.toNat 8) ++ ptL (Int.toNat 1) (Int.toNat 8) = H0 ++ hdL L (k + 1) := by
            rw [hdL, phL, ← HX.out, HA3.out, HS3.out, plc, ← HX.out, if_neg hn0, ← HW.out]
            simp only [List.append_assoc]
            rfl
          unfold Hid
          rw [← e]
          exact hpc.out
        case measure => simp [intOf]; omega
    · have hkn : k = L.length := by omega
      have hle : (L.length : Int) ≤ (k : Int) := by omega
      subst hkn
      obtain ⟨H1, hH1⟩ : ∃ H1, H1 = H0 ++ hdL L L.length := ⟨_, rfl⟩
      rw [← hH1] at hpr
      have HH1' : Hid (H1 = H0 ++ hdL L L.length) := hH1
      have HH2 : Hid (H1.length = 64 + 56 * L.length) := by unfold Hid; rw [hH1, List.length_append, HH1.out, hdL_length]
      have HDl : Hid (∀ j, j ≤ L.length → (H1 ++ daL L D j).length = sk L j) := fun j hj => by rw [List.length_append, HH2.out]; exact daL_length (fun i hi => (HD.out i hi).1) j hj
      clear hH1 hlt
      go_wp2
      go_loopw [5, 14] (fun b i wr => ∃ j : Nat, j ≤ L.length ∧ i = .int .i64 j ∧ Hid (Pr B wr b (H1 ++ daL L D j) (.slice none 0 0) []) ∧ Hid (Fr B w1 wr)) (fun _ i _ => L.length - (intOf i).toNat)
      case atStart => exact ⟨0, Nat.zero_le _, rfl, by rw [daL, List.append_nil]; exact hpr, hbel⟩
      case round =>
        clear m0 m1 m2 hpr hbel HBr
        obtain ⟨j, hj, rfl, hpr, hbel⟩ := hrel
        obtain ⟨m0, m1, m2⟩ := HM.out _ hbel.out.b
        have HBr : Hid (B ≤ wr.heap.size) := Nat.le_trans HBW.out hbel.out.b.size
        have hskj := sk_mono L hj
        by_cases hlt : j < L.length
        · have hlt2 : (j : Int) < (L.length : Int) := by omega
          obtain ⟨_, _, he, _, hcc⟩ := HI1.out.segs
          cases he
          obtain ⟨g, off, rfl, hg, hcells⟩ := hcc (by intro e; have := congrArg List.length e; simp only [List.length_nil] at this; omega)
          obtain ⟨_, _, _, c3⟩ := hcells j hlt
          have hgB : g < B := by rw [← HS1.out]; exact hg
          have HC3 : Hid (∀ w', Below B w1 w' → w'.cell? ⟨g, off + j * 4 + 3, none⟩ = some (.slice (sg L j).m (sg L j).n (sg L j).c)) := fun w' hb => (hb.cell hgB).trans c3
          have b3 := HC3.out _ hbel.out.b
          clear hcells hcc c3
          have HDj : Hid (∀ w', Below B w1 w' → Byt w' (.slice (sg L j).m (sg L j).n (sg L j).c) (D j)) := fun w' hb => (HD1.out j hlt).2.later hb HS1.out.symm
          have HDn : Hid ((D j).length = (sg L j).n) := (HD1.out j hlt).1
          have hskj2 := sk_mono L (show j + 1 ≤ L.length by omega)
          have HSk : Hid (sk L (j + 1) = if 0 < (sg L j).n then al (sk L j) + (sg L j).n else sk L j) := rfl
          have HDa : Hid (daL L D (j + 1) = daL L D j ++ if 0 < (sg L j).n then zs (al (sk L j) - sk L j) ++ D j else []) := rfl
          obtain ⟨x, hx⟩ : ∃ x, x = sg L j := ⟨_, rfl⟩
          rw [← hx] at HC3 b3 HDj HDn HSk HDa
          clear hx
          by_cases hn0 : 0 < x.n
          · have hn0' : (0 : Int) < (x.n : Int) := by omega
            have HSk' : Hid (al (sk L j) + x.n ≤ 200000) := by have h := HSk.out; rw [if_pos hn0] at h; unfold Hid; omega
            have hpc := hpr
            have hbc := hbel
            clear hpr hbel
            go_wp2_with (first
              | (go_at_call 17; refine (rpad_c B _ (.slice none 0 0) _ [] _ hpc.out (by rw [HDl.out j hj]; omega) (Nat.le_trans HBW.out hbc.out.b.size)).mono ?_; rintro e w' ⟨v, rfl, hpn, hbn⟩; rw [HDl.out j hj] at hpn; have hpc : Hid (Pr B w' v (H1 ++ daL L D j ++ zs (al (sk L j) - sk L j)) (.slice none 0 0) []) := hpn; have hbc : Hid (Fr B w1 w') := hbc.out.trans hbn; obtain ⟨m0, m1, m2⟩ := HM.out _ hbc.out.b; have b3 := HC3.out _ hbc.out.b; clear hpn hbn)
              | (at_builtin; refine appPbd (by rfl) _ _ (by rfl) B _ _ (H1 ++ daL L D j ++ zs (al (sk L j) - sk L j)) [] _ (D j) (by rfl) hpc.out (by rfl) (HDj.out _ hbc.out.b) (by have h := HSk'.out; have h2 := al_lo (sk L j); rw [List.length_append, HDl.out j hj, zs_length, HDn.out]; omega) (Nat.le_trans HBW.out hbc.out.b.size) ?_; intro v' w' hpn hbn; have hpc : Hid (Pr B w' v' _ (.slice none 0 0) []) := hpn; have hbc : Hid (Fr B w1 w') := hbc.out.trans hbn; clear hpn hbn))
            go_roundw
            case rel =>
              refine ⟨j + 1, by omega, by go_num, ?_, hbc⟩
              unfold Hid
              rw [HDa.out, if_pos hn0, ← List.append_assoc, ← List.append_assoc]
              exact hpc.out
            case measure => simp [intOf]; omega
          · have hn0' : ¬ (0 : Int) < (x.n : Int) := by omega
            go_wp2
            go_roundw
            case rel =>
              refine ⟨j + 1, by omega, by go_num, ?_, hbel⟩
              unfold Hid
              rw [HDa.out, if_neg hn0, List.append_nil]
              exact hpr.out
            case measure => simp [intOf]; omega
        · have hjn : j = L.length := by omega
          have hle2 : (L.length : Int) ≤ (j : Int) := by omega
          subst hjn
          have HLn := HDl.out L.length (Nat.le_refl _)
          obtain ⟨F, hF⟩ : ∃ F, F = H1 ++ daL L D L.length := ⟨_, rfl⟩
          rw [← hF] at hpr HLn
          have HFF : Hid (F = H1 ++ daL L D L.length) := hF
          have HFl : Hid (F.length = sk L L.length) := HLn
          clear hF HLn hlt
          have hN0' : ((N.length : Int) == 0) = false := by simp; intro h; rw [h] at hn0; simp at hn0
          have HNk : Hid (F.length + nk N N.length < 300000) := by
            have h := HZ.out; have h2 := al_lo (sk L L.length); have h3 := al_lo (tabAt L + 24 + 24 * N.length + 1 + nk N N.length + 27); unfold Hid; rw [HFl.out]; unfold szz at h; rw [if_neg (by omega)] at h; unfold tabAt at *; omega
          go_wp2_with (go_at_call 18; refine (rsym_c B _ _ F N w1 _ HS1.out.symm hbel.out.b HI1.out.syms hpr.out hN HNk.out).mono ?_; rintro e w9 ⟨v, t, s, rfl, hpn, hbn⟩; have hpc : Hid (Pr B w9 v _ t s) := hpn; have hbc : Hid (Fr B w1 w9) := hbel.out.trans hbn; clear hpn hbn)
          go_ret2
          have e : F ++ (zs (al F.length - F.length) ++ symL (al F.length) N) = headL E.toNat (szz L N - 256) L.length 4 3 ++ (hdL L L.length ++ (daL L D L.length ++ (zs (tabAt L - sk L L.length) ++ symL (tabAt L) N))) := by
            rw [HFl.out, HFF.out, HH1'.out, HH0.out]
            simp only [List.append_assoc]
            rfl
          have h := hpc.out
          rw [e, HBB.out, HMb.out] at h
          exact ⟨_, _, _, rfl, h, HB1.out.trans (hbc.out.b.mono (by have := HBB.out; have := HMb.out; omega))⟩
end Go.Proofs.YtjjdpfmkbaaapaaDoor
