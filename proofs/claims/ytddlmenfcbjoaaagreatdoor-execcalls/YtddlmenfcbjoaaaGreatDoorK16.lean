import Derived.Test.YtddlmenfcbjoaaaGreatDoorK15
namespace Go.Proofs.YtddlmenfcbjoaaaGreatDoor
set_option linter.unusedVariables false
set_option maxRecDepth 100000
set_option maxHeartbeats 8000000
open Go.ChangeShapes Go.WideShapes Go.ChangeAt Go.RowKit Go.Deep _root_.Go.Proofs.Tryz
theorem IZ {B : Nat} {L : Lay} {S : St} (w : World) (h : PB B L S w) (hs : Sok S) (hT : Tb w) (hB : 0 < B) (k : Wy) (hk : k.b = L.b)  :
  Calls prog 162 #[.agg (wyc k), .nilFunc] w fun e w' => e = .returned (mvR (MV S k 2 none)) ∧ ∃ L', PSt B L w L' (MV S k 2 none).S w' := by
 obtain ⟨W0, hW0, r0, r1, b0, s0⟩ := cN w (wyc k) (tpc tN) 187 42
 have hzt := bU
 have HS := hid s0
 have HP : Hid (PB B L S W0) := h.later b0.out
 have HP0 : Hid (PSt B L w L S W0) := (PSt.refl h).post b0.out
 have HF : Hid (Calls prog 177 #[.agg (wyc k), .int .i64 (2 : Nat)] W0 fun e w' => e = .returned (.agg (tpc (fbd S k 2))) ∧ Below W0.heap.size W0 w') := eE W0 HP.out hs (hT.next b0.out) k hk 2 (by omega)
 have hlo : ∀ g, w.heap.size ≤ g → ¬ L.own g := fun g hg e => by have := h.own_hi _ e; omega
 have HO0 : Hid (Own w L W0 w.heap.size (wyc k) 187) := ⟨r0.out, hlo _ (ZqE _), ZqE _⟩
 have HO1 : Hid (Own w L W0 (w.heap.size + 1) (tpc tN) 42) := ⟨r1.out, hlo _ (by omega), by omega⟩
 have HTH : Hid ((fbd S k 2).is = false → fnd S.ram.length (n64 k.ad) (2 : Nat) < 6) := fun q => (cO (by simp [cW]) q).1
 have HTN : Hid ((fbd S k 2).is = false → fbd S k 2 = tN) := fun q => (cO (by simp [cW]) q).2.2.1
 have HSS := hid hs
 have HK := hid hk
 clear hT h s0 r0 r1 b0 HP hs hk
 have hnil : ∀ W, (binOp .neq 190 .nilFunc .nilFunc).run prog W = .ok (.bool false) W := fun W => by kernel_rfl
 have hR0 : Hid ((fbd S k 2).is = true → MV S k 2 none = ⟨0#64, 0#64, fbd S k 2, S⟩) := fun q => by simp only [MV, if_pos q]
 have hR1 : Hid ((fbd S k 2).is = false → MV S k 2 none = ⟨mvB S k 2, 0#64, tN, mvT S k 2⟩) := fun q => by simp only [MV, q, Bool.false_eq_true, if_false]
 obtain ⟨t, ht⟩ : ∃ t, t = fbd S k 2 := ⟨_, rfl⟩
 rw [← ht] at HF HTH HTN hR0 hR1
 have HE := hid ht
 clear ht
 go_enter func162, ntmps162
 go_upto_region 1 with fail
 clear hW0
 go_upto_region 2 with (go_at_call 176; refine (IP _).mono ?_; rintro e wl ⟨rfl, hwl⟩; have hwl2 := hwl.symm; subst hwl2)
 go_upto_region 3 with (first | (refine wpList_load_row (by rfl) _ _ (by rfl) _ (by rfl) 187 _ (0, 0) _ HO0.out.r underlying187 (by rfl) (bZ _) ?_) | (go_at_call 177; refine HF.out.mono ?_; rintro e w1 ⟨rfl, hb1⟩; have HB1 := hid hb1; clear hb1) | (refine aK (by rfl) 42 _ _ (by rfl) (by rfl) (tpc tN) (tpc t) (by rfl) (by rfl) (aD _) (bC _ _) (aN _) ?_))
 refine bT (motive := fun W => Code.wp _ _ _ _ W) (Q := fun W => Own w L W w.heap.size (wyc k) 187 ∧ Own w L W (w.heap.size + 1) (tpc tN) 42 ∧ Own w L W w1.heap.size (tpc t) 42 ∧ PSt B L w L S W) ⟨(HO0.out.post HB1.out).post (aG _ _), (HO1.out.post HB1.out).post (aG _ _), Own.new (HP0.out.post HB1.out) _ _, (HP0.out.post HB1.out).al _⟩ ?_
 clear HO0 HO1 HP0 HB1 HF HS
 generalize w1.heap.size = gt
 rintro W2 ⟨o0, o1, o2, p2⟩
 have HO0 := hid o0
 have HO1 := hid o1
 have HO2 := hid o2
 have HP2 := hid p2
 have ct : W2.cell? ⟨gt, 0, none⟩ = some (.bool t.is) := o2.r.cell 0
 clear o0 o1 o2 p2
 obtain ⟨q, hq⟩ : ∃ q, q = t.is := ⟨_, rfl⟩
 rw [← hq] at ct
 have HQ := hid hq
 clear hq
 cases q with
 | true =>
  have HRR : Hid (MV S k 2 none = ⟨0#64, 0#64, t, S⟩) := hR0.out HQ.out.symm
  go_upto_region 4 with fail
  have := aS W2
  have hlt : gt < W2.heap.size := HO2.out.r.lt
  have HLT : Hid (∀ j v, (tpc t)[j]? = some v → W2.cell? ⟨gt, 0 + j, none⟩ = some v) := fun j v hv => by rw [ZqU, HO2.out.r.cell]; exact hv
  refine aQ (x0 := bB.start W2) 3 (by kernel_rfl) (by kernel_rfl) ?_
  simp only [List.take_succ_cons, List.take_zero, List.drop_succ_cons, List.drop_zero]
  repeat (first | (refine ZqN (by rfl) fun K hK => ?_; refine bD 42 _ (by rfl) gt 0 (by rfl) (tpc t) _ hlt HLT.out underlying42 (by rfl) (aD _) (hK _ ?_); clear hK K; simp only [Act.put, ZqA, ZqC, ZqB]) | (go_big_quiet_step (fail)))
  refine wpQuiet_nil ?_
  rintro w' ⟨x9, rfl⟩
  have HO9 : Hid (Own w L x9.1 (w.heap.size + 1) (tpc tN) 42) := HO1.out.post x9.below
  have HP9 : Hid (PSt B L w L S x9.1) := HP2.out.post x9.below
  go_wp2_with (refine aA (by rfl) _ _ _ (by rfl) (by rfl) _ _ _ (by rfl) (by rfl) HO9.out.r (aD _) (bC _ _) (aN _) ?_)
  refine ZqH (v := .tuple #[.int .u64 (0), .int .u64 (0), .agg (tpc (t))]) (aZ results162 _ _ (w.heap.size + 1) 42 _ (0, 0) _ _ _ (by rfl) (by rfl) (by rfl) (ZqW _ _ _ _ _ _ HO9.out.r) underlying42 (by rfl) (aD _)) rfl ⟨by rw [HRR.out]; rfl, L, by rw [HRR.out]; exact HP9.out.row HO9.out.n HO9.out.ge _⟩
 | false =>
  have hRR := hR1.out HQ.out.symm
  have hth := HTH.out HQ.out.symm
  have HRR : Hid (MV S k 2 none = _) := hRR
  clear hRR hR0 hR1 HTH HTN
  have c0 := HO0.out.r.wcl.b
  have c34 := HO0.out.r.wcl.ad
  have c35 := HO0.out.r.wcl.r
  by_cases hr : k.r = 2
  ·have hr2 : (k.r != 2) = false := by rw [hr]; rfl
   have eB : Hid (mvB S k 2 = 0#64) := by unfold Hid mvB; rw [if_pos hr]
   have eT : Hid (mvT S k 2 = S) := by unfold Hid mvT; rw [if_pos hr]
   clear hth
   go_upto_region 12 with fail
   go_wp2_with (first | (refine aC (by rfl) 42 _ (by rfl) (tpc tN) (by kernel_rfl) ?_) | (refine aA (by rfl) _ _ _ (by rfl) (by rfl) _ _ _ (by rfl) (by rfl) HO1.out.r (aD _) (bC _ _) (aN _) ?_))
   refine ZqH (v := .tuple #[.int .u64 (0), .int .u64 (0), .agg (tpc (tN))]) (aZ results162 _ _ (w.heap.size + 1) 42 _ (0, 0) _ _ _ (by rfl) (by rfl) (by rfl) (ZqW _ _ _ _ _ _ HO1.out.r) underlying42 (by rfl) (aD _)) rfl ⟨by rw [HRR.out]; show _ = Ending.returned (.tuple #[.int .u64 (n64 (mvB S k 2)), .int .u64 (n64 (0#64)), .agg (tpc tN)]); rw [eB.out]; try rfl, L, by rw [HRR.out]; show PSt B L w L (mvT S k 2) _; rw [eT.out]; exact HP2.out.row HO1.out.n HO1.out.ge _⟩
  ·have hr2 : (k.r != 2) = true := by simpa using hr
   have eB : Hid (n64 (mvB S k 2) = (S.ld (n64 k.ad) (2 : Nat)).1.1) := oA HSS.out (by simp [cW]) hth hr
   have eT : Hid (mvT S k 2 = (S.ld (n64 k.ad) (2 : Nat)).2) := by unfold Hid mvT; rw [if_neg hr]
   have hrg := mX HSS.out (n64 k.ad) 2 (by simp [cW]) hth
   have hwr : IntKind.u16.wrap (S.ld (n64 k.ad) (2 : Nat)).1.1 = (S.ld (n64 k.ad) (2 : Nat)).1.1 := by
    show _ % _ = _
    exact Int.emod_eq_of_lt hrg.1 hrg.2
   have hwr2 : IntKind.u64.wrap (S.ld (n64 k.ad) (2 : Nat)).1.1 = (S.ld (n64 k.ad) (2 : Nat)).1.1 := bI hrg.1 (by have := hrg.2; have := bM (mvB S k 2); rw [eB.out] at this; exact this)
   have HLD : Hid (Calls prog 178 #[.pointer (some ⟨k.b, 0, none⟩), .int .u64 (n64 k.ad), .int .i64 (2 : Nat)] W2 fun e w' => e = .returned (.tuple #[.int .u64 (S.ld (n64 k.ad) (2 : Nat)).1.1, .bool (S.ld (n64 k.ad) (2 : Nat)).1.2]) ∧ ∃ L', PSt B L W2 L' (S.ld (n64 k.ad) (2 : Nat)).2 w') := by rw [HK.out]; exact kR W2 HP2.out.p HSS.out.n.1 _ _ ⟨bF _, bM _⟩ (by omega) HSS.out.st HSS.out.n.2.2.1
   generalize (S.ld (n64 k.ad) (2 : Nat)).1.1 = vo at hwr hwr2 HLD eB
   generalize (S.ld (n64 k.ad) (2 : Nat)).1.2 = vb at HLD
   have HS1 : Hid (Sok (S.ld (n64 k.ad) (2 : Nat)).2) := HSS.out.ld _ _
   generalize (S.ld (n64 k.ad) (2 : Nat)).2 = S1 at HLD eT HS1
   clear hrg hth
   go_upto_region 9 with (go_at_call 178; refine HLD.out.mono ?_; rintro e w3 ⟨rfl, L1, hp3⟩; have HP3 := hid hp3; clear hp3)
   refine bT (motive := fun W => Code.wp _ _ _ _ W) (Q := fun W => Own w L1 W w.heap.size (wyc k) 187 ∧ Own w L1 W (w.heap.size + 1) (tpc tN) 42 ∧ PSt B L w L1 S1 W) ⟨HO0.out.bus HP3.out, HO1.out.bus HP3.out, HP2.out.trans HP3.out⟩ ?_
   clear HO0 HO1 HO2 HP2 HP3 HLD c0 c34 c35 ct
   rintro W4 ⟨o0, o1, p4⟩
   have HO0 := hid o0
   have HO1 := hid o1
   have HP2 := hid p4
   have c0 := o0.r.wcl.b
   have c34 := o0.r.wcl.ad
   have HKb : Hid (k.b = L1.b) := HK.out.trans p4.b.1.symm
   clear o0 o1 p4
   go_upto_region 12 with fail
   go_wp2_with (first | (refine aC (by rfl) 42 _ (by rfl) (tpc tN) (by kernel_rfl) ?_) | (refine aA (by rfl) _ _ _ (by rfl) (by rfl) _ _ _ (by rfl) (by rfl) HO1.out.r (aD _) (bC _ _) (aN _) ?_))
   refine ZqH (v := .tuple #[.int .u64 (vo), .int .u64 (0), .agg (tpc (tN))]) (aZ results162 _ _ (w.heap.size + 1) 42 _ (0, 0) _ _ _ (by rfl) (by rfl) (by rfl) (ZqW _ _ _ _ _ _ HO1.out.r) underlying42 (by rfl) (aD _)) rfl ⟨by rw [HRR.out]; show _ = Ending.returned (.tuple #[.int .u64 (n64 (mvB S k 2)), .int .u64 (n64 (0#64)), .agg (tpc tN)]); rw [eB.out]; try rfl, L1, by rw [HRR.out]; show PSt B L w L1 (mvT S k 2) _; rw [eT.out]; exact HP2.out.row HO1.out.n HO1.out.ge _⟩
theorem vY {B : Nat} {L : Lay} {S : St} (w : World) (h : PB B L S w) (hs : Sok S) (hT : Tb w) (hB : 0 < B) (k : Wy) (hk : k.b = L.b) (fn : Nat) (ps : Array Value) (f : BitVec 64 → BitVec 64)
  (hcf : ∀ x W, (callFunc fn (#[.int .u64 x] ++ ps)).run prog W = .ok (.enter fn (#[.int .u64 x] ++ ps)) W)
  (hM : ∀ L1 S1 W, PSt B L w L1 S1 W → ∀ x : BitVec 64, Calls prog fn (#[.int .u64 (n64 x)] ++ ps) W fun e w' => e = .returned (.int .u64 (n64 (f x))) ∧ Below W.heap.size W w') :
  Calls prog 162 #[.agg (wyc k), .func (.func fn) #[] ps] w fun e w' => e = .returned (mvR (MV S k 2 (some f))) ∧ ∃ L', PSt B L w L' (MV S k 2 (some f)).S w' := by
 obtain ⟨W0, hW0, r0, r1, b0, s0⟩ := cN w (wyc k) (tpc tN) 187 42
 have hzt := bU
 have HS := hid s0
 have HP : Hid (PB B L S W0) := h.later b0.out
 have HP0 : Hid (PSt B L w L S W0) := (PSt.refl h).post b0.out
 have HF : Hid (Calls prog 177 #[.agg (wyc k), .int .i64 (2 : Nat)] W0 fun e w' => e = .returned (.agg (tpc (fbd S k 2))) ∧ Below W0.heap.size W0 w') := eE W0 HP.out hs (hT.next b0.out) k hk 2 (by omega)
 have hlo : ∀ g, w.heap.size ≤ g → ¬ L.own g := fun g hg e => by have := h.own_hi _ e; omega
 have HO0 : Hid (Own w L W0 w.heap.size (wyc k) 187) := ⟨r0.out, hlo _ (ZqE _), ZqE _⟩
 have HO1 : Hid (Own w L W0 (w.heap.size + 1) (tpc tN) 42) := ⟨r1.out, hlo _ (by omega), by omega⟩
 have HTH : Hid ((fbd S k 2).is = false → fnd S.ram.length (n64 k.ad) (2 : Nat) < 6) := fun q => (cO (by simp [cW]) q).1
 have HTN : Hid ((fbd S k 2).is = false → fbd S k 2 = tN) := fun q => (cO (by simp [cW]) q).2.2.1
 have HSS := hid hs
 have HK := hid hk
 clear hT h s0 r0 r1 b0 HP hs hk
 have hnil : ∀ W, (binOp .neq 190 (.func (.func fn) #[] ps) .nilFunc).run prog W = .ok (.bool true) W := fun W => by kernel_rfl
 have HM := hid hM
 clear hM
 have hR0 : Hid ((fbd S k 2).is = true → MV S k 2 (some f) = ⟨0#64, 0#64, fbd S k 2, S⟩) := fun q => by simp only [MV, if_pos q]
 have hR1 : Hid ((fbd S k 2).is = false → MV S k 2 (some f) = ⟨mvB S k 2, bS 2 (f (mvB S k 2)), tN, ((mvT S k 2).sto2 (n64 k.ad) (2 : Nat) (n64 (bS 2 (f (mvB S k 2))))).2⟩) := fun q => by simp only [MV, q, Bool.false_eq_true, if_false]
 obtain ⟨t, ht⟩ : ∃ t, t = fbd S k 2 := ⟨_, rfl⟩
 rw [← ht] at HF HTH HTN hR0 hR1
 have HE := hid ht
 clear ht
 go_enter func162, ntmps162
 go_upto_region 1 with fail
 clear hW0
 go_upto_region 2 with (go_at_call 176; refine (IP _).mono ?_; rintro e wl ⟨rfl, hwl⟩; have hwl2 := hwl.symm; subst hwl2)
 go_upto_region 3 with (first | (refine wpList_load_row (by rfl) _ _ (by rfl) _ (by rfl) 187 _ (0, 0) _ HO0.out.r underlying187 (by rfl) (bZ _) ?_) | (go_at_call 177; refine HF.out.mono ?_; rintro e w1 ⟨rfl, hb1⟩; have HB1 := hid hb1; clear hb1) | (refine aK (by rfl) 42 _ _ (by rfl) (by rfl) (tpc tN) (tpc t) (by rfl) (by rfl) (aD _) (bC _ _) (aN _) ?_))
 refine bT (motive := fun W => Code.wp _ _ _ _ W) (Q := fun W => Own w L W w.heap.size (wyc k) 187 ∧ Own w L W (w.heap.size + 1) (tpc tN) 42 ∧ Own w L W w1.heap.size (tpc t) 42 ∧ PSt B L w L S W) ⟨(HO0.out.post HB1.out).post (aG _ _), (HO1.out.post HB1.out).post (aG _ _), Own.new (HP0.out.post HB1.out) _ _, (HP0.out.post HB1.out).al _⟩ ?_
 clear HO0 HO1 HP0 HB1 HF HS
 generalize w1.heap.size = gt
 rintro W2 ⟨o0, o1, o2, p2⟩
 have HO0 := hid o0
 have HO1 := hid o1
 have HO2 := hid o2
 have HP2 := hid p2
 have ct : W2.cell? ⟨gt, 0, none⟩ = some (.bool t.is) := o2.r.cell 0
 clear o0 o1 o2 p2
 obtain ⟨q, hq⟩ : ∃ q, q = t.is := ⟨_, rfl⟩
 rw [← hq] at ct
 have HQ := hid hq
 clear hq
 cases q with
 | true =>
  have HRR : Hid (MV S k 2 (some f) = ⟨0#64, 0#64, t, S⟩) := hR0.out HQ.out.symm
  go_upto_region 4 with fail
  have := aS W2
  have hlt : gt < W2.heap.size := HO2.out.r.lt
  have HLT : Hid (∀ j v, (tpc t)[j]? = some v → W2.cell? ⟨gt, 0 + j, none⟩ = some v) := fun j v hv => by rw [ZqU, HO2.out.r.cell]; exact hv
  refine aQ (x0 := bB.start W2) 3 (by kernel_rfl) (by kernel_rfl) ?_
  simp only [List.take_succ_cons, List.take_zero, List.drop_succ_cons, List.drop_zero]
  repeat (first | (refine ZqN (by rfl) fun K hK => ?_; refine bD 42 _ (by rfl) gt 0 (by rfl) (tpc t) _ hlt HLT.out underlying42 (by rfl) (aD _) (hK _ ?_); clear hK K; simp only [Act.put, ZqA, ZqC, ZqB]) | (go_big_quiet_step (fail)))
  refine wpQuiet_nil ?_
  rintro w' ⟨x9, rfl⟩
  have HO9 : Hid (Own w L x9.1 (w.heap.size + 1) (tpc tN) 42) := HO1.out.post x9.below
  have HP9 : Hid (PSt B L w L S x9.1) := HP2.out.post x9.below
  go_wp2_with (refine aA (by rfl) _ _ _ (by rfl) (by rfl) _ _ _ (by rfl) (by rfl) HO9.out.r (aD _) (bC _ _) (aN _) ?_)
  refine ZqH (v := .tuple #[.int .u64 (0), .int .u64 (0), .agg (tpc (t))]) (aZ results162 _ _ (w.heap.size + 1) 42 _ (0, 0) _ _ _ (by rfl) (by rfl) (by rfl) (ZqW _ _ _ _ _ _ HO9.out.r) underlying42 (by rfl) (aD _)) rfl ⟨by rw [HRR.out]; rfl, L, by rw [HRR.out]; exact HP9.out.row HO9.out.n HO9.out.ge _⟩
 | false =>
  have hRR := hR1.out HQ.out.symm
  have hth := HTH.out HQ.out.symm
  have HRR : Hid (MV S k 2 (some f) = _) := hRR
  clear hRR hR0 hR1 HTH HTN
  have c0 := HO0.out.r.wcl.b
  have c34 := HO0.out.r.wcl.ad
  have c35 := HO0.out.r.wcl.r
  by_cases hr : k.r = 2
  ·have hr2 : (k.r != 2) = false := by rw [hr]; rfl
   have eB : Hid (mvB S k 2 = 0#64) := by unfold Hid mvB; rw [if_pos hr]
   have eT : Hid (mvT S k 2 = S) := by unfold Hid mvT; rw [if_pos hr]
   clear hth
   have HFX : Hid (∀ W, Below W2.heap.size W2 W → Calls prog fn (#[.int .u64 (0)] ++ ps) W fun e w' => e = .returned (.int .u64 (n64 (f (mvB S k 2)))) ∧ Below W.heap.size W w') := fun W hb => by
    have q := HM.out L S W (HP2.out.post hb) (mvB S k 2)
    rw [show n64 (mvB S k 2) = 0 by rw [eB.out]; rfl] at q
    exact q
   have hcx := hcf (0)
   obtain ⟨y, hy⟩ : ∃ y, y = f (mvB S k 2) := ⟨_, rfl⟩
   rw [← hy] at HFX
   have HY := hid hy
   clear hy
   have hw1 : IntKind.u16.wrap (n64 y) = n64 (bS 2 y) := by rw [jK y (by decide)]; rfl
   have hw2 : IntKind.u64.wrap (n64 (bS 2 y)) = n64 (bS 2 y) := bI (bF _) (bM _)
   go_upto_region 11 with (refine (HFX.out _ (ZqD _ _)).mono ?_; rintro e w5 ⟨rfl, hb5⟩; have HB5 := hid hb5; clear hb5)
   refine bT (motive := fun W => Code.wp _ _ _ _ W) (Q := fun W => Own w L W w.heap.size (wyc k) 187 ∧ Own w L W (w.heap.size + 1) (tpc tN) 42 ∧ PSt B L w L S W) ⟨HO0.out.post HB5.out, HO1.out.post HB5.out, HP2.out.post HB5.out⟩ ?_
   clear HO0 HO1 HP2 HB5 HFX c0 c34
   rintro W6 ⟨o0, o1, p6⟩
   have HO0 := hid o0
   have HO1 := hid o1
   have HP2 := hid p6
   have c0 := o0.r.wcl.b
   have c34 := o0.r.wcl.ad
   have HSR : Hid (Calls prog 179 #[.pointer (some ⟨k.b, 0, none⟩), .int .u64 (n64 k.ad), .int .i64 (2 : Nat), .int .u64 (n64 (bS 2 y))] W6 fun e w' => e = .returned (.bool ((S).sto2 (n64 k.ad) (2 : Nat) (n64 (bS 2 y))).1) ∧ ∃ L', PSt B L W6 L' ((S).sto2 (n64 k.ad) (2 : Nat) (n64 (bS 2 y))).2 w') := by rw [HK.out]; exact iO W6 p6.p HSS.out.n.1 _ _ ⟨bF _, bM _⟩ (by omega) HSS.out.st _
   clear o0 o1 p6
   generalize hS2 : ((S).sto2 (n64 k.ad) (2 : Nat) (n64 (bS 2 y))).2 = S2 at HSR
   generalize ((S).sto2 (n64 k.ad) (2 : Nat) (n64 (bS 2 y))).1 = b2 at HSR
   have HS2 : Hid (((S).sto2 (n64 k.ad) (2 : Nat) (n64 (bS 2 y))).2 = S2) := hS2
   clear hS2
   go_upto_region 12 with (go_at_call 179; refine HSR.out.mono ?_; rintro e w7 ⟨rfl, L2, hp7⟩; have HP7 := hid hp7; clear hp7)
   have HO9 : Hid (Own w L2 w7 (w.heap.size + 1) (tpc tN) 42) := HO1.out.bus HP7.out
   go_wp2_with (first | (refine aC (by rfl) 42 _ (by rfl) (tpc tN) (by kernel_rfl) ?_) | (refine aA (by rfl) _ _ _ (by rfl) (by rfl) _ _ _ (by rfl) (by rfl) HO9.out.r (aD _) (bC _ _) (aN _) ?_))
   refine ZqH (v := .tuple #[.int .u64 (0), .int .u64 (n64 (bS 2 y)), .agg (tpc (tN))]) (aZ results162 _ _ (w.heap.size + 1) 42 _ (0, 0) _ _ _ (by rfl) (by rfl) (by rfl) (ZqW _ _ _ _ _ _ HO9.out.r) underlying42 (by rfl) (aD _)) rfl ⟨by rw [HRR.out]; show _ = Ending.returned (.tuple #[.int .u64 (n64 (mvB S k 2)), .int .u64 (n64 (bS 2 (f (mvB S k 2)))), .agg (tpc tN)]); rw [← HY.out, eB.out]; try rfl, L2, by rw [HRR.out]; show PSt B L w L2 ((mvT S k 2).sto2 _ _ (n64 (bS 2 (f (mvB S k 2))))).2 _; rw [eT.out, ← HY.out, HS2.out]; exact (HP2.out.trans HP7.out).row HO9.out.n HO9.out.ge _⟩
  ·have hr2 : (k.r != 2) = true := by simpa using hr
   have eB : Hid (n64 (mvB S k 2) = (S.ld (n64 k.ad) (2 : Nat)).1.1) := oA HSS.out (by simp [cW]) hth hr
   have eT : Hid (mvT S k 2 = (S.ld (n64 k.ad) (2 : Nat)).2) := by unfold Hid mvT; rw [if_neg hr]
   have hrg := mX HSS.out (n64 k.ad) 2 (by simp [cW]) hth
   have hwr : IntKind.u16.wrap (S.ld (n64 k.ad) (2 : Nat)).1.1 = (S.ld (n64 k.ad) (2 : Nat)).1.1 := by
    show _ % _ = _
    exact Int.emod_eq_of_lt hrg.1 hrg.2
   have hwr2 : IntKind.u64.wrap (S.ld (n64 k.ad) (2 : Nat)).1.1 = (S.ld (n64 k.ad) (2 : Nat)).1.1 := bI hrg.1 (by have := hrg.2; have := bM (mvB S k 2); rw [eB.out] at this; exact this)
   have HLD : Hid (Calls prog 178 #[.pointer (some ⟨k.b, 0, none⟩), .int .u64 (n64 k.ad), .int .i64 (2 : Nat)] W2 fun e w' => e = .returned (.tuple #[.int .u64 (S.ld (n64 k.ad) (2 : Nat)).1.1, .bool (S.ld (n64 k.ad) (2 : Nat)).1.2]) ∧ ∃ L', PSt B L W2 L' (S.ld (n64 k.ad) (2 : Nat)).2 w') := by rw [HK.out]; exact kR W2 HP2.out.p HSS.out.n.1 _ _ ⟨bF _, bM _⟩ (by omega) HSS.out.st HSS.out.n.2.2.1
   generalize (S.ld (n64 k.ad) (2 : Nat)).1.1 = vo at hwr hwr2 HLD eB
   generalize (S.ld (n64 k.ad) (2 : Nat)).1.2 = vb at HLD
   have HS1 : Hid (Sok (S.ld (n64 k.ad) (2 : Nat)).2) := HSS.out.ld _ _
   generalize (S.ld (n64 k.ad) (2 : Nat)).2 = S1 at HLD eT HS1
   clear hrg hth
   go_upto_region 9 with (go_at_call 178; refine HLD.out.mono ?_; rintro e w3 ⟨rfl, L1, hp3⟩; have HP3 := hid hp3; clear hp3)
   refine bT (motive := fun W => Code.wp _ _ _ _ W) (Q := fun W => Own w L1 W w.heap.size (wyc k) 187 ∧ Own w L1 W (w.heap.size + 1) (tpc tN) 42 ∧ PSt B L w L1 S1 W) ⟨HO0.out.bus HP3.out, HO1.out.bus HP3.out, HP2.out.trans HP3.out⟩ ?_
   clear HO0 HO1 HO2 HP2 HP3 HLD c0 c34 c35 ct
   rintro W4 ⟨o0, o1, p4⟩
   have HO0 := hid o0
   have HO1 := hid o1
   have HP2 := hid p4
   have c0 := o0.r.wcl.b
   have c34 := o0.r.wcl.ad
   have HKb : Hid (k.b = L1.b) := HK.out.trans p4.b.1.symm
   clear o0 o1 p4
   have HFX : Hid (∀ W, Below W4.heap.size W4 W → Calls prog fn (#[.int .u64 (vo)] ++ ps) W fun e w' => e = .returned (.int .u64 (n64 (f (mvB S k 2)))) ∧ Below W.heap.size W w') := fun W hb => by
    have q := HM.out L1 S1 W (HP2.out.post hb) (mvB S k 2)
    rw [eB.out] at q
    exact q
   have hcx := hcf (vo)
   obtain ⟨y, hy⟩ : ∃ y, y = f (mvB S k 2) := ⟨_, rfl⟩
   rw [← hy] at HFX
   have HY := hid hy
   clear hy
   have hw1 : IntKind.u16.wrap (n64 y) = n64 (bS 2 y) := by rw [jK y (by decide)]; rfl
   have hw2 : IntKind.u64.wrap (n64 (bS 2 y)) = n64 (bS 2 y) := bI (bF _) (bM _)
   go_upto_region 11 with (refine (HFX.out _ (ZqD _ _)).mono ?_; rintro e w5 ⟨rfl, hb5⟩; have HB5 := hid hb5; clear hb5)
   refine bT (motive := fun W => Code.wp _ _ _ _ W) (Q := fun W => Own w L1 W w.heap.size (wyc k) 187 ∧ Own w L1 W (w.heap.size + 1) (tpc tN) 42 ∧ PSt B L w L1 S1 W) ⟨HO0.out.post HB5.out, HO1.out.post HB5.out, HP2.out.post HB5.out⟩ ?_
   clear HO0 HO1 HP2 HB5 HFX c0 c34
   rintro W6 ⟨o0, o1, p6⟩
   have HO0 := hid o0
   have HO1 := hid o1
   have HP2 := hid p6
   have c0 := o0.r.wcl.b
   have c34 := o0.r.wcl.ad
   have HSR : Hid (Calls prog 179 #[.pointer (some ⟨k.b, 0, none⟩), .int .u64 (n64 k.ad), .int .i64 (2 : Nat), .int .u64 (n64 (bS 2 y))] W6 fun e w' => e = .returned (.bool ((S1).sto2 (n64 k.ad) (2 : Nat) (n64 (bS 2 y))).1) ∧ ∃ L', PSt B L1 W6 L' ((S1).sto2 (n64 k.ad) (2 : Nat) (n64 (bS 2 y))).2 w') := by rw [HKb.out]; exact iO W6 p6.p HS1.out.n.1 _ _ ⟨bF _, bM _⟩ (by omega) HS1.out.st _
   clear o0 o1 p6
   generalize hS2 : ((S1).sto2 (n64 k.ad) (2 : Nat) (n64 (bS 2 y))).2 = S2 at HSR
   generalize ((S1).sto2 (n64 k.ad) (2 : Nat) (n64 (bS 2 y))).1 = b2 at HSR
   have HS2 : Hid (((S1).sto2 (n64 k.ad) (2 : Nat) (n64 (bS 2 y))).2 = S2) := hS2
   clear hS2
   go_upto_region 12 with (go_at_call 179; refine HSR.out.mono ?_; rintro e w7 ⟨rfl, L2, hp7⟩; have HP7 := hid hp7; clear hp7)
   have HO9 : Hid (Own w L2 w7 (w.heap.size + 1) (tpc tN) 42) := HO1.out.bus HP7.out
   go_wp2_with (first | (refine aC (by rfl) 42 _ (by rfl) (tpc tN) (by kernel_rfl) ?_) | (refine aA (by rfl) _ _ _ (by rfl) (by rfl) _ _ _ (by rfl) (by rfl) HO9.out.r (aD _) (bC _ _) (aN _) ?_))
   refine ZqH (v := .tuple #[.int .u64 (vo), .int .u64 (n64 (bS 2 y)), .agg (tpc (tN))]) (aZ results162 _ _ (w.heap.size + 1) 42 _ (0, 0) _ _ _ (by rfl) (by rfl) (by rfl) (ZqW _ _ _ _ _ _ HO9.out.r) underlying42 (by rfl) (aD _)) rfl ⟨by rw [HRR.out]; show _ = Ending.returned (.tuple #[.int .u64 (n64 (mvB S k 2)), .int .u64 (n64 (bS 2 (f (mvB S k 2)))), .agg (tpc tN)]); rw [← HY.out, eB.out]; try rfl, L2, by rw [HRR.out]; show PSt B L w L2 ((mvT S k 2).sto2 _ _ (n64 (bS 2 (f (mvB S k 2))))).2 _; rw [eT.out, ← HY.out, HS2.out]; exact (HP2.out.trans HP7.out).row HO9.out.n HO9.out.ge _⟩
theorem JA {B : Nat} {L : Lay} {S : St} (w : World) (h : PB B L S w) (hs : Sok S) (hT : Tb w) (hB : 0 < B) (k : Wy) (hk : k.b = L.b)  :
  Calls prog 163 #[.agg (wyc k), .nilFunc] w fun e w' => e = .returned (mvR (MV S k 4 none)) ∧ ∃ L', PSt B L w L' (MV S k 4 none).S w' := by
 obtain ⟨W0, hW0, r0, r1, b0, s0⟩ := cN w (wyc k) (tpc tN) 187 42
 have hzt := bU
 have HS := hid s0
 have HP : Hid (PB B L S W0) := h.later b0.out
 have HP0 : Hid (PSt B L w L S W0) := (PSt.refl h).post b0.out
 have HF : Hid (Calls prog 177 #[.agg (wyc k), .int .i64 (4 : Nat)] W0 fun e w' => e = .returned (.agg (tpc (fbd S k 4))) ∧ Below W0.heap.size W0 w') := eE W0 HP.out hs (hT.next b0.out) k hk 4 (by omega)
 have hlo : ∀ g, w.heap.size ≤ g → ¬ L.own g := fun g hg e => by have := h.own_hi _ e; omega
 have HO0 : Hid (Own w L W0 w.heap.size (wyc k) 187) := ⟨r0.out, hlo _ (ZqE _), ZqE _⟩
 have HO1 : Hid (Own w L W0 (w.heap.size + 1) (tpc tN) 42) := ⟨r1.out, hlo _ (by omega), by omega⟩
 have HTH : Hid ((fbd S k 4).is = false → fnd S.ram.length (n64 k.ad) (4 : Nat) < 6) := fun q => (cO (by simp [cW]) q).1
 have HTN : Hid ((fbd S k 4).is = false → fbd S k 4 = tN) := fun q => (cO (by simp [cW]) q).2.2.1
 have HSS := hid hs
 have HK := hid hk
 clear hT h s0 r0 r1 b0 HP hs hk
 have hnil : ∀ W, (binOp .neq 190 .nilFunc .nilFunc).run prog W = .ok (.bool false) W := fun W => by kernel_rfl
 have hR0 : Hid ((fbd S k 4).is = true → MV S k 4 none = ⟨0#64, 0#64, fbd S k 4, S⟩) := fun q => by simp only [MV, if_pos q]
 have hR1 : Hid ((fbd S k 4).is = false → MV S k 4 none = ⟨mvB S k 4, 0#64, tN, mvT S k 4⟩) := fun q => by simp only [MV, q, Bool.false_eq_true, if_false]
 obtain ⟨t, ht⟩ : ∃ t, t = fbd S k 4 := ⟨_, rfl⟩
 rw [← ht] at HF HTH HTN hR0 hR1
 have HE := hid ht
 clear ht
 go_enter func163, ntmps163
 go_upto_region 1 with fail
 clear hW0
 go_upto_region 2 with (go_at_call 176; refine (IQ _).mono ?_; rintro e wl ⟨rfl, hwl⟩; have hwl2 := hwl.symm; subst hwl2)
 go_upto_region 3 with (first | (refine wpList_load_row (by rfl) _ _ (by rfl) _ (by rfl) 187 _ (0, 0) _ HO0.out.r underlying187 (by rfl) (bZ _) ?_) | (go_at_call 177; refine HF.out.mono ?_; rintro e w1 ⟨rfl, hb1⟩; have HB1 := hid hb1; clear hb1) | (refine aK (by rfl) 42 _ _ (by rfl) (by rfl) (tpc tN) (tpc t) (by rfl) (by rfl) (aD _) (bC _ _) (aN _) ?_))
 refine bT (motive := fun W => Code.wp _ _ _ _ W) (Q := fun W => Own w L W w.heap.size (wyc k) 187 ∧ Own w L W (w.heap.size + 1) (tpc tN) 42 ∧ Own w L W w1.heap.size (tpc t) 42 ∧ PSt B L w L S W) ⟨(HO0.out.post HB1.out).post (aG _ _), (HO1.out.post HB1.out).post (aG _ _), Own.new (HP0.out.post HB1.out) _ _, (HP0.out.post HB1.out).al _⟩ ?_
 clear HO0 HO1 HP0 HB1 HF HS
 generalize w1.heap.size = gt
 rintro W2 ⟨o0, o1, o2, p2⟩
 have HO0 := hid o0
 have HO1 := hid o1
 have HO2 := hid o2
 have HP2 := hid p2
 have ct : W2.cell? ⟨gt, 0, none⟩ = some (.bool t.is) := o2.r.cell 0
 clear o0 o1 o2 p2
 obtain ⟨q, hq⟩ : ∃ q, q = t.is := ⟨_, rfl⟩
 rw [← hq] at ct
 have HQ := hid hq
 clear hq
 cases q with
 | true =>
  have HRR : Hid (MV S k 4 none = ⟨0#64, 0#64, t, S⟩) := hR0.out HQ.out.symm
  go_upto_region 4 with fail
  have := aS W2
  have hlt : gt < W2.heap.size := HO2.out.r.lt
  have HLT : Hid (∀ j v, (tpc t)[j]? = some v → W2.cell? ⟨gt, 0 + j, none⟩ = some v) := fun j v hv => by rw [ZqU, HO2.out.r.cell]; exact hv
  refine aQ (x0 := bB.start W2) 3 (by kernel_rfl) (by kernel_rfl) ?_
  simp only [List.take_succ_cons, List.take_zero, List.drop_succ_cons, List.drop_zero]
  repeat (first | (refine ZqN (by rfl) fun K hK => ?_; refine bD 42 _ (by rfl) gt 0 (by rfl) (tpc t) _ hlt HLT.out underlying42 (by rfl) (aD _) (hK _ ?_); clear hK K; simp only [Act.put, ZqA, ZqC, ZqB]) | (go_big_quiet_step (fail)))
  refine wpQuiet_nil ?_
  rintro w' ⟨x9, rfl⟩
  have HO9 : Hid (Own w L x9.1 (w.heap.size + 1) (tpc tN) 42) := HO1.out.post x9.below
  have HP9 : Hid (PSt B L w L S x9.1) := HP2.out.post x9.below
  go_wp2_with (refine aA (by rfl) _ _ _ (by rfl) (by rfl) _ _ _ (by rfl) (by rfl) HO9.out.r (aD _) (bC _ _) (aN _) ?_)
  refine ZqH (v := .tuple #[.int .u64 (0), .int .u64 (0), .agg (tpc (t))]) (aZ results163 _ _ (w.heap.size + 1) 42 _ (0, 0) _ _ _ (by rfl) (by rfl) (by rfl) (ZqW _ _ _ _ _ _ HO9.out.r) underlying42 (by rfl) (aD _)) rfl ⟨by rw [HRR.out]; rfl, L, by rw [HRR.out]; exact HP9.out.row HO9.out.n HO9.out.ge _⟩
 | false =>
  have hRR := hR1.out HQ.out.symm
  have hth := HTH.out HQ.out.symm
  have HRR : Hid (MV S k 4 none = _) := hRR
  clear hRR hR0 hR1 HTH HTN
  have c0 := HO0.out.r.wcl.b
  have c34 := HO0.out.r.wcl.ad
  have c35 := HO0.out.r.wcl.r
  by_cases hr : k.r = 2
  ·have hr2 : (k.r != 2) = false := by rw [hr]; rfl
   have eB : Hid (mvB S k 4 = 0#64) := by unfold Hid mvB; rw [if_pos hr]
   have eT : Hid (mvT S k 4 = S) := by unfold Hid mvT; rw [if_pos hr]
   clear hth
   go_upto_region 12 with fail
   go_wp2_with (first | (refine aC (by rfl) 42 _ (by rfl) (tpc tN) (by kernel_rfl) ?_) | (refine aA (by rfl) _ _ _ (by rfl) (by rfl) _ _ _ (by rfl) (by rfl) HO1.out.r (aD _) (bC _ _) (aN _) ?_))
   refine ZqH (v := .tuple #[.int .u64 (0), .int .u64 (0), .agg (tpc (tN))]) (aZ results163 _ _ (w.heap.size + 1) 42 _ (0, 0) _ _ _ (by rfl) (by rfl) (by rfl) (ZqW _ _ _ _ _ _ HO1.out.r) underlying42 (by rfl) (aD _)) rfl ⟨by rw [HRR.out]; show _ = Ending.returned (.tuple #[.int .u64 (n64 (mvB S k 4)), .int .u64 (n64 (0#64)), .agg (tpc tN)]); rw [eB.out]; try rfl, L, by rw [HRR.out]; show PSt B L w L (mvT S k 4) _; rw [eT.out]; exact HP2.out.row HO1.out.n HO1.out.ge _⟩
  ·have hr2 : (k.r != 2) = true := by simpa using hr
   have eB : Hid (n64 (mvB S k 4) = (S.ld (n64 k.ad) (4 : Nat)).1.1) := oA HSS.out (by simp [cW]) hth hr
   have eT : Hid (mvT S k 4 = (S.ld (n64 k.ad) (4 : Nat)).2) := by unfold Hid mvT; rw [if_neg hr]
   have hrg := mX HSS.out (n64 k.ad) 4 (by simp [cW]) hth
   have hwr : IntKind.u32.wrap (S.ld (n64 k.ad) (4 : Nat)).1.1 = (S.ld (n64 k.ad) (4 : Nat)).1.1 := by
    show _ % _ = _
    exact Int.emod_eq_of_lt hrg.1 hrg.2
   have hwr2 : IntKind.u64.wrap (S.ld (n64 k.ad) (4 : Nat)).1.1 = (S.ld (n64 k.ad) (4 : Nat)).1.1 := bI hrg.1 (by have := hrg.2; have := bM (mvB S k 4); rw [eB.out] at this; exact this)
   have HLD : Hid (Calls prog 178 #[.pointer (some ⟨k.b, 0, none⟩), .int .u64 (n64 k.ad), .int .i64 (4 : Nat)] W2 fun e w' => e = .returned (.tuple #[.int .u64 (S.ld (n64 k.ad) (4 : Nat)).1.1, .bool (S.ld (n64 k.ad) (4 : Nat)).1.2]) ∧ ∃ L', PSt B L W2 L' (S.ld (n64 k.ad) (4 : Nat)).2 w') := by rw [HK.out]; exact kR W2 HP2.out.p HSS.out.n.1 _ _ ⟨bF _, bM _⟩ (by omega) HSS.out.st HSS.out.n.2.2.1
   generalize (S.ld (n64 k.ad) (4 : Nat)).1.1 = vo at hwr hwr2 HLD eB
   generalize (S.ld (n64 k.ad) (4 : Nat)).1.2 = vb at HLD
   have HS1 : Hid (Sok (S.ld (n64 k.ad) (4 : Nat)).2) := HSS.out.ld _ _
   generalize (S.ld (n64 k.ad) (4 : Nat)).2 = S1 at HLD eT HS1
   clear hrg hth
   go_upto_region 9 with (go_at_call 178; refine HLD.out.mono ?_; rintro e w3 ⟨rfl, L1, hp3⟩; have HP3 := hid hp3; clear hp3)
   refine bT (motive := fun W => Code.wp _ _ _ _ W) (Q := fun W => Own w L1 W w.heap.size (wyc k) 187 ∧ Own w L1 W (w.heap.size + 1) (tpc tN) 42 ∧ PSt B L w L1 S1 W) ⟨HO0.out.bus HP3.out, HO1.out.bus HP3.out, HP2.out.trans HP3.out⟩ ?_
   clear HO0 HO1 HO2 HP2 HP3 HLD c0 c34 c35 ct
   rintro W4 ⟨o0, o1, p4⟩
   have HO0 := hid o0
   have HO1 := hid o1
   have HP2 := hid p4
   have c0 := o0.r.wcl.b
   have c34 := o0.r.wcl.ad
   have HKb : Hid (k.b = L1.b) := HK.out.trans p4.b.1.symm
   clear o0 o1 p4
   go_upto_region 12 with fail
   go_wp2_with (first | (refine aC (by rfl) 42 _ (by rfl) (tpc tN) (by kernel_rfl) ?_) | (refine aA (by rfl) _ _ _ (by rfl) (by rfl) _ _ _ (by rfl) (by rfl) HO1.out.r (aD _) (bC _ _) (aN _) ?_))
   refine ZqH (v := .tuple #[.int .u64 (vo), .int .u64 (0), .agg (tpc (tN))]) (aZ results163 _ _ (w.heap.size + 1) 42 _ (0, 0) _ _ _ (by rfl) (by rfl) (by rfl) (ZqW _ _ _ _ _ _ HO1.out.r) underlying42 (by rfl) (aD _)) rfl ⟨by rw [HRR.out]; show _ = Ending.returned (.tuple #[.int .u64 (n64 (mvB S k 4)), .int .u64 (n64 (0#64)), .agg (tpc tN)]); rw [eB.out]; try rfl, L1, by rw [HRR.out]; show PSt B L w L1 (mvT S k 4) _; rw [eT.out]; exact HP2.out.row HO1.out.n HO1.out.ge _⟩
theorem vZ {B : Nat} {L : Lay} {S : St} (w : World) (h : PB B L S w) (hs : Sok S) (hT : Tb w) (hB : 0 < B) (k : Wy) (hk : k.b = L.b) (fn : Nat) (ps : Array Value) (f : BitVec 64 → BitVec 64)
  (hcf : ∀ x W, (callFunc fn (#[.int .u64 x] ++ ps)).run prog W = .ok (.enter fn (#[.int .u64 x] ++ ps)) W)
  (hM : ∀ L1 S1 W, PSt B L w L1 S1 W → ∀ x : BitVec 64, Calls prog fn (#[.int .u64 (n64 x)] ++ ps) W fun e w' => e = .returned (.int .u64 (n64 (f x))) ∧ Below W.heap.size W w') :
  Calls prog 163 #[.agg (wyc k), .func (.func fn) #[] ps] w fun e w' => e = .returned (mvR (MV S k 4 (some f))) ∧ ∃ L', PSt B L w L' (MV S k 4 (some f)).S w' := by
 obtain ⟨W0, hW0, r0, r1, b0, s0⟩ := cN w (wyc k) (tpc tN) 187 42
 have hzt := bU
 have HS := hid s0
 have HP : Hid (PB B L S W0) := h.later b0.out
 have HP0 : Hid (PSt B L w L S W0) := (PSt.refl h).post b0.out
 have HF : Hid (Calls prog 177 #[.agg (wyc k), .int .i64 (4 : Nat)] W0 fun e w' => e = .returned (.agg (tpc (fbd S k 4))) ∧ Below W0.heap.size W0 w') := eE W0 HP.out hs (hT.next b0.out) k hk 4 (by omega)
 have hlo : ∀ g, w.heap.size ≤ g → ¬ L.own g := fun g hg e => by have := h.own_hi _ e; omega
 have HO0 : Hid (Own w L W0 w.heap.size (wyc k) 187) := ⟨r0.out, hlo _ (ZqE _), ZqE _⟩
 have HO1 : Hid (Own w L W0 (w.heap.size + 1) (tpc tN) 42) := ⟨r1.out, hlo _ (by omega), by omega⟩
 have HTH : Hid ((fbd S k 4).is = false → fnd S.ram.length (n64 k.ad) (4 : Nat) < 6) := fun q => (cO (by simp [cW]) q).1
 have HTN : Hid ((fbd S k 4).is = false → fbd S k 4 = tN) := fun q => (cO (by simp [cW]) q).2.2.1
 have HSS := hid hs
 have HK := hid hk
 clear hT h s0 r0 r1 b0 HP hs hk
 have hnil : ∀ W, (binOp .neq 190 (.func (.func fn) #[] ps) .nilFunc).run prog W = .ok (.bool true) W := fun W => by kernel_rfl
 have HM := hid hM
 clear hM
 have hR0 : Hid ((fbd S k 4).is = true → MV S k 4 (some f) = ⟨0#64, 0#64, fbd S k 4, S⟩) := fun q => by simp only [MV, if_pos q]
 have hR1 : Hid ((fbd S k 4).is = false → MV S k 4 (some f) = ⟨mvB S k 4, bS 4 (f (mvB S k 4)), tN, ((mvT S k 4).sto2 (n64 k.ad) (4 : Nat) (n64 (bS 4 (f (mvB S k 4))))).2⟩) := fun q => by simp only [MV, q, Bool.false_eq_true, if_false]
 obtain ⟨t, ht⟩ : ∃ t, t = fbd S k 4 := ⟨_, rfl⟩
 rw [← ht] at HF HTH HTN hR0 hR1
 have HE := hid ht
 clear ht
 go_enter func163, ntmps163
 go_upto_region 1 with fail
 clear hW0
 go_upto_region 2 with (go_at_call 176; refine (IQ _).mono ?_; rintro e wl ⟨rfl, hwl⟩; have hwl2 := hwl.symm; subst hwl2)
 go_upto_region 3 with (first | (refine wpList_load_row (by rfl) _ _ (by rfl) _ (by rfl) 187 _ (0, 0) _ HO0.out.r underlying187 (by rfl) (bZ _) ?_) | (go_at_call 177; refine HF.out.mono ?_; rintro e w1 ⟨rfl, hb1⟩; have HB1 := hid hb1; clear hb1) | (refine aK (by rfl) 42 _ _ (by rfl) (by rfl) (tpc tN) (tpc t) (by rfl) (by rfl) (aD _) (bC _ _) (aN _) ?_))
 refine bT (motive := fun W => Code.wp _ _ _ _ W) (Q := fun W => Own w L W w.heap.size (wyc k) 187 ∧ Own w L W (w.heap.size + 1) (tpc tN) 42 ∧ Own w L W w1.heap.size (tpc t) 42 ∧ PSt B L w L S W) ⟨(HO0.out.post HB1.out).post (aG _ _), (HO1.out.post HB1.out).post (aG _ _), Own.new (HP0.out.post HB1.out) _ _, (HP0.out.post HB1.out).al _⟩ ?_
 clear HO0 HO1 HP0 HB1 HF HS
 generalize w1.heap.size = gt
 rintro W2 ⟨o0, o1, o2, p2⟩
 have HO0 := hid o0
 have HO1 := hid o1
 have HO2 := hid o2
 have HP2 := hid p2
 have ct : W2.cell? ⟨gt, 0, none⟩ = some (.bool t.is) := o2.r.cell 0
 clear o0 o1 o2 p2
 obtain ⟨q, hq⟩ : ∃ q, q = t.is := ⟨_, rfl⟩
 rw [← hq] at ct
 have HQ := hid hq
 clear hq
 cases q with
 | true =>
  have HRR : Hid (MV S k 4 (some f) = ⟨0#64, 0#64, t, S⟩) := hR0.out HQ.out.symm
  go_upto_region 4 with fail
  have := aS W2
  have hlt : gt < W2.heap.size := HO2.out.r.lt
  have HLT : Hid (∀ j v, (tpc t)[j]? = some v → W2.cell? ⟨gt, 0 + j, none⟩ = some v) := fun j v hv => by rw [ZqU, HO2.out.r.cell]; exact hv
  refine aQ (x0 := bB.start W2) 3 (by kernel_rfl) (by kernel_rfl) ?_
  simp only [List.take_succ_cons, List.take_zero, List.drop_succ_cons, List.drop_zero]
  repeat (first | (refine ZqN (by rfl) fun K hK => ?_; refine bD 42 _ (by rfl) gt 0 (by rfl) (tpc t) _ hlt HLT.out underlying42 (by rfl) (aD _) (hK _ ?_); clear hK K; simp only [Act.put, ZqA, ZqC, ZqB]) | (go_big_quiet_step (fail)))
  refine wpQuiet_nil ?_
  rintro w' ⟨x9, rfl⟩
  have HO9 : Hid (Own w L x9.1 (w.heap.size + 1) (tpc tN) 42) := HO1.out.post x9.below
  have HP9 : Hid (PSt B L w L S x9.1) := HP2.out.post x9.below
  go_wp2_with (refine aA (by rfl) _ _ _ (by rfl) (by rfl) _ _ _ (by rfl) (by rfl) HO9.out.r (aD _) (bC _ _) (aN _) ?_)
  refine ZqH (v := .tuple #[.int .u64 (0), .int .u64 (0), .agg (tpc (t))]) (aZ results163 _ _ (w.heap.size + 1) 42 _ (0, 0) _ _ _ (by rfl) (by rfl) (by rfl) (ZqW _ _ _ _ _ _ HO9.out.r) underlying42 (by rfl) (aD _)) rfl ⟨by rw [HRR.out]; rfl, L, by rw [HRR.out]; exact HP9.out.row HO9.out.n HO9.out.ge _⟩
 | false =>
  have hRR := hR1.out HQ.out.symm
  have hth := HTH.out HQ.out.symm
  have HRR : Hid (MV S k 4 (some f) = _) := hRR
  clear hRR hR0 hR1 HTH HTN
  have c0 := HO0.out.r.wcl.b
  have c34 := HO0.out.r.wcl.ad
  have c35 := HO0.out.r.wcl.r
  by_cases hr : k.r = 2
  ·have hr2 : (k.r != 2) = false := by rw [hr]; rfl
   have eB : Hid (mvB S k 4 = 0#64) := by unfold Hid mvB; rw [if_pos hr]
   have eT : Hid (mvT S k 4 = S) := by unfold Hid mvT; rw [if_pos hr]
   clear hth
   have HFX : Hid (∀ W, Below W2.heap.size W2 W → Calls prog fn (#[.int .u64 (0)] ++ ps) W fun e w' => e = .returned (.int .u64 (n64 (f (mvB S k 4)))) ∧ Below W.heap.size W w') := fun W hb => by
    have q := HM.out L S W (HP2.out.post hb) (mvB S k 4)
    rw [show n64 (mvB S k 4) = 0 by rw [eB.out]; rfl] at q
    exact q
   have hcx := hcf (0)
   obtain ⟨y, hy⟩ : ∃ y, y = f (mvB S k 4) := ⟨_, rfl⟩
   rw [← hy] at HFX
   have HY := hid hy
   clear hy
   have hw1 : IntKind.u32.wrap (n64 y) = n64 (bS 4 y) := by rw [jK y (by decide)]; rfl
   have hw2 : IntKind.u64.wrap (n64 (bS 4 y)) = n64 (bS 4 y) := bI (bF _) (bM _)
   go_upto_region 11 with (refine (HFX.out _ (ZqD _ _)).mono ?_; rintro e w5 ⟨rfl, hb5⟩; have HB5 := hid hb5; clear hb5)
   refine bT (motive := fun W => Code.wp _ _ _ _ W) (Q := fun W => Own w L W w.heap.size (wyc k) 187 ∧ Own w L W (w.heap.size + 1) (tpc tN) 42 ∧ PSt B L w L S W) ⟨HO0.out.post HB5.out, HO1.out.post HB5.out, HP2.out.post HB5.out⟩ ?_
   clear HO0 HO1 HP2 HB5 HFX c0 c34
   rintro W6 ⟨o0, o1, p6⟩
   have HO0 := hid o0
   have HO1 := hid o1
   have HP2 := hid p6
   have c0 := o0.r.wcl.b
   have c34 := o0.r.wcl.ad
   have HSR : Hid (Calls prog 179 #[.pointer (some ⟨k.b, 0, none⟩), .int .u64 (n64 k.ad), .int .i64 (4 : Nat), .int .u64 (n64 (bS 4 y))] W6 fun e w' => e = .returned (.bool ((S).sto2 (n64 k.ad) (4 : Nat) (n64 (bS 4 y))).1) ∧ ∃ L', PSt B L W6 L' ((S).sto2 (n64 k.ad) (4 : Nat) (n64 (bS 4 y))).2 w') := by rw [HK.out]; exact iO W6 p6.p HSS.out.n.1 _ _ ⟨bF _, bM _⟩ (by omega) HSS.out.st _
   clear o0 o1 p6
   generalize hS2 : ((S).sto2 (n64 k.ad) (4 : Nat) (n64 (bS 4 y))).2 = S2 at HSR
   generalize ((S).sto2 (n64 k.ad) (4 : Nat) (n64 (bS 4 y))).1 = b2 at HSR
   have HS2 : Hid (((S).sto2 (n64 k.ad) (4 : Nat) (n64 (bS 4 y))).2 = S2) := hS2
   clear hS2
   go_upto_region 12 with (go_at_call 179; refine HSR.out.mono ?_; rintro e w7 ⟨rfl, L2, hp7⟩; have HP7 := hid hp7; clear hp7)
   have HO9 : Hid (Own w L2 w7 (w.heap.size + 1) (tpc tN) 42) := HO1.out.bus HP7.out
   go_wp2_with (first | (refine aC (by rfl) 42 _ (by rfl) (tpc tN) (by kernel_rfl) ?_) | (refine aA (by rfl) _ _ _ (by rfl) (by rfl) _ _ _ (by rfl) (by rfl) HO9.out.r (aD _) (bC _ _) (aN _) ?_))
   refine ZqH (v := .tuple #[.int .u64 (0), .int .u64 (n64 (bS 4 y)), .agg (tpc (tN))]) (aZ results163 _ _ (w.heap.size + 1) 42 _ (0, 0) _ _ _ (by rfl) (by rfl) (by rfl) (ZqW _ _ _ _ _ _ HO9.out.r) underlying42 (by rfl) (aD _)) rfl ⟨by rw [HRR.out]; show _ = Ending.returned (.tuple #[.int .u64 (n64 (mvB S k 4)), .int .u64 (n64 (bS 4 (f (mvB S k 4)))), .agg (tpc tN)]); rw [← HY.out, eB.out]; try rfl, L2, by rw [HRR.out]; show PSt B L w L2 ((mvT S k 4).sto2 _ _ (n64 (bS 4 (f (mvB S k 4))))).2 _; rw [eT.out, ← HY.out, HS2.out]; exact (HP2.out.trans HP7.out).row HO9.out.n HO9.out.ge _⟩
  ·have hr2 : (k.r != 2) = true := by simpa using hr
   have eB : Hid (n64 (mvB S k 4) = (S.ld (n64 k.ad) (4 : Nat)).1.1) := oA HSS.out (by simp [cW]) hth hr
   have eT : Hid (mvT S k 4 = (S.ld (n64 k.ad) (4 : Nat)).2) := by unfold Hid mvT; rw [if_neg hr]
   have hrg := mX HSS.out (n64 k.ad) 4 (by simp [cW]) hth
   have hwr : IntKind.u32.wrap (S.ld (n64 k.ad) (4 : Nat)).1.1 = (S.ld (n64 k.ad) (4 : Nat)).1.1 := by
    show _ % _ = _
    exact Int.emod_eq_of_lt hrg.1 hrg.2
   have hwr2 : IntKind.u64.wrap (S.ld (n64 k.ad) (4 : Nat)).1.1 = (S.ld (n64 k.ad) (4 : Nat)).1.1 := bI hrg.1 (by have := hrg.2; have := bM (mvB S k 4); rw [eB.out] at this; exact this)
   have HLD : Hid (Calls prog 178 #[.pointer (some ⟨k.b, 0, none⟩), .int .u64 (n64 k.ad), .int .i64 (4 : Nat)] W2 fun e w' => e = .returned (.tuple #[.int .u64 (S.ld (n64 k.ad) (4 : Nat)).1.1, .bool (S.ld (n64 k.ad) (4 : Nat)).1.2]) ∧ ∃ L', PSt B L W2 L' (S.ld (n64 k.ad) (4 : Nat)).2 w') := by rw [HK.out]; exact kR W2 HP2.out.p HSS.out.n.1 _ _ ⟨bF _, bM _⟩ (by omega) HSS.out.st HSS.out.n.2.2.1
   generalize (S.ld (n64 k.ad) (4 : Nat)).1.1 = vo at hwr hwr2 HLD eB
   generalize (S.ld (n64 k.ad) (4 : Nat)).1.2 = vb at HLD
   have HS1 : Hid (Sok (S.ld (n64 k.ad) (4 : Nat)).2) := HSS.out.ld _ _
   generalize (S.ld (n64 k.ad) (4 : Nat)).2 = S1 at HLD eT HS1
   clear hrg hth
   go_upto_region 9 with (go_at_call 178; refine HLD.out.mono ?_; rintro e w3 ⟨rfl, L1, hp3⟩; have HP3 := hid hp3; clear hp3)
   refine bT (motive := fun W => Code.wp _ _ _ _ W) (Q := fun W => Own w L1 W w.heap.size (wyc k) 187 ∧ Own w L1 W (w.heap.size + 1) (tpc tN) 42 ∧ PSt B L w L1 S1 W) ⟨HO0.out.bus HP3.out, HO1.out.bus HP3.out, HP2.out.trans HP3.out⟩ ?_
   clear HO0 HO1 HO2 HP2 HP3 HLD c0 c34 c35 ct
   rintro W4 ⟨o0, o1, p4⟩
   have HO0 := hid o0
   have HO1 := hid o1
   have HP2 := hid p4
   have c0 := o0.r.wcl.b
   have c34 := o0.r.wcl.ad
   have HKb : Hid (k.b = L1.b) := HK.out.trans p4.b.1.symm
   clear o0 o1 p4
   have HFX : Hid (∀ W, Below W4.heap.size W4 W → Calls prog fn (#[.int .u64 (vo)] ++ ps) W fun e w' => e = .returned (.int .u64 (n64 (f (mvB S k 4)))) ∧ Below W.heap.size W w') := fun W hb => by
    have q := HM.out L1 S1 W (HP2.out.post hb) (mvB S k 4)
    rw [eB.out] at q
    exact q
   have hcx := hcf (vo)
   obtain ⟨y, hy⟩ : ∃ y, y = f (mvB S k 4) := ⟨_, rfl⟩
   rw [← hy] at HFX
   have HY := hid hy
   clear hy
   have hw1 : IntKind.u32.wrap (n64 y) = n64 (bS 4 y) := by rw [jK y (by decide)]; rfl
   have hw2 : IntKind.u64.wrap (n64 (bS 4 y)) = n64 (bS 4 y) := bI (bF _) (bM _)
   go_upto_region 11 with (refine (HFX.out _ (ZqD _ _)).mono ?_; rintro e w5 ⟨rfl, hb5⟩; have HB5 := hid hb5; clear hb5)
   refine bT (motive := fun W => Code.wp _ _ _ _ W) (Q := fun W => Own w L1 W w.heap.size (wyc k) 187 ∧ Own w L1 W (w.heap.size + 1) (tpc tN) 42 ∧ PSt B L w L1 S1 W) ⟨HO0.out.post HB5.out, HO1.out.post HB5.out, HP2.out.post HB5.out⟩ ?_
   clear HO0 HO1 HP2 HB5 HFX c0 c34
   rintro W6 ⟨o0, o1, p6⟩
   have HO0 := hid o0
   have HO1 := hid o1
   have HP2 := hid p6
   have c0 := o0.r.wcl.b
   have c34 := o0.r.wcl.ad
   have HSR : Hid (Calls prog 179 #[.pointer (some ⟨k.b, 0, none⟩), .int .u64 (n64 k.ad), .int .i64 (4 : Nat), .int .u64 (n64 (bS 4 y))] W6 fun e w' => e = .returned (.bool ((S1).sto2 (n64 k.ad) (4 : Nat) (n64 (bS 4 y))).1) ∧ ∃ L', PSt B L1 W6 L' ((S1).sto2 (n64 k.ad) (4 : Nat) (n64 (bS 4 y))).2 w') := by rw [HKb.out]; exact iO W6 p6.p HS1.out.n.1 _ _ ⟨bF _, bM _⟩ (by omega) HS1.out.st _
   clear o0 o1 p6
   generalize hS2 : ((S1).sto2 (n64 k.ad) (4 : Nat) (n64 (bS 4 y))).2 = S2 at HSR
   generalize ((S1).sto2 (n64 k.ad) (4 : Nat) (n64 (bS 4 y))).1 = b2 at HSR
   have HS2 : Hid (((S1).sto2 (n64 k.ad) (4 : Nat) (n64 (bS 4 y))).2 = S2) := hS2
   clear hS2
   go_upto_region 12 with (go_at_call 179; refine HSR.out.mono ?_; rintro e w7 ⟨rfl, L2, hp7⟩; have HP7 := hid hp7; clear hp7)
   have HO9 : Hid (Own w L2 w7 (w.heap.size + 1) (tpc tN) 42) := HO1.out.bus HP7.out
   go_wp2_with (first | (refine aC (by rfl) 42 _ (by rfl) (tpc tN) (by kernel_rfl) ?_) | (refine aA (by rfl) _ _ _ (by rfl) (by rfl) _ _ _ (by rfl) (by rfl) HO9.out.r (aD _) (bC _ _) (aN _) ?_))
   refine ZqH (v := .tuple #[.int .u64 (vo), .int .u64 (n64 (bS 4 y)), .agg (tpc (tN))]) (aZ results163 _ _ (w.heap.size + 1) 42 _ (0, 0) _ _ _ (by rfl) (by rfl) (by rfl) (ZqW _ _ _ _ _ _ HO9.out.r) underlying42 (by rfl) (aD _)) rfl ⟨by rw [HRR.out]; show _ = Ending.returned (.tuple #[.int .u64 (n64 (mvB S k 4)), .int .u64 (n64 (bS 4 (f (mvB S k 4)))), .agg (tpc tN)]); rw [← HY.out, eB.out]; try rfl, L2, by rw [HRR.out]; show PSt B L w L2 ((mvT S k 4).sto2 _ _ (n64 (bS 4 (f (mvB S k 4))))).2 _; rw [eT.out, ← HY.out, HS2.out]; exact (HP2.out.trans HP7.out).row HO9.out.n HO9.out.ge _⟩
end Go.Proofs.YtddlmenfcbjoaaaGreatDoor
