import Derived.Test.YtddlmenfcbjoaaaGreatDoorK15
import Derived.Test.YtddlmenfcbjoaaaGreatDoorK16
import Derived.Deep.RegionWith
import Derived.Deep.RegionHeld3
namespace Go.Proofs.YtddlmenfcbjoaaaGreatDoor
set_option linter.unusedVariables false
set_option maxRecDepth 100000
set_option maxHeartbeats 8000000
open Go.ChangeShapes Go.WideShapes Go.ChangeAt Go.RowKit Go.Deep _root_.Go.Proofs.Tryz
theorem JB {B : Nat} {L : Lay} {S : St} (w : World) (h : PB B L S w) (hs : Sok S) (hT : Tb w) (hB : 0 < B) (k : Wy) (hk : k.b = L.b)  :
  Calls prog 164 #[.agg (wyc k), .nilFunc] w fun e w' => e = .returned (mvR (MV S k 8 none)) ∧ ∃ L', PSt B L w L' (MV S k 8 none).S w' := by
 obtain ⟨W0, hW0, r0, r1, b0, s0⟩ := cN w (wyc k) (tpc tN) 187 42
 have hzt := bU
 have HS := hid s0
 have HP : Hid (PB B L S W0) := h.later b0.out
 have HP0 : Hid (PSt B L w L S W0) := (PSt.refl h).post b0.out
 have HF : Hid (Calls prog 177 #[.agg (wyc k), .int .i64 (8 : Nat)] W0 fun e w' => e = .returned (.agg (tpc (fbd S k 8))) ∧ Below W0.heap.size W0 w') := eE W0 HP.out hs (hT.next b0.out) k hk 8 (by omega)
 have hlo : ∀ g, w.heap.size ≤ g → ¬ L.own g := fun g hg e => by have := h.own_hi _ e; omega
 have HO0 : Hid (Own w L W0 w.heap.size (wyc k) 187) := ⟨r0.out, hlo _ (ZqE _), ZqE _⟩
 have HO1 : Hid (Own w L W0 (w.heap.size + 1) (tpc tN) 42) := ⟨r1.out, hlo _ (by omega), by omega⟩
 have HTH : Hid ((fbd S k 8).is = false → fnd S.ram.length (n64 k.ad) (8 : Nat) < 6) := fun q => (cO (by simp [cW]) q).1
 have HTN : Hid ((fbd S k 8).is = false → fbd S k 8 = tN) := fun q => (cO (by simp [cW]) q).2.2.1
 have HSS := hid hs
 have HK := hid hk
 clear hT h s0 r0 r1 b0 HP hs hk
 have hnil : ∀ W, (binOp .neq 190 .nilFunc .nilFunc).run prog W = .ok (.bool false) W := fun W => by kernel_rfl
 have hR0 : Hid ((fbd S k 8).is = true → MV S k 8 none = ⟨0#64, 0#64, fbd S k 8, S⟩) := fun q => by simp only [MV, if_pos q]
 have hR1 : Hid ((fbd S k 8).is = false → MV S k 8 none = ⟨mvB S k 8, 0#64, tN, mvT S k 8⟩) := fun q => by simp only [MV, q, Bool.false_eq_true, if_false]
 obtain ⟨t, ht⟩ : ∃ t, t = fbd S k 8 := ⟨_, rfl⟩
 rw [← ht] at HF HTH HTN hR0 hR1
 have HE := hid ht
 clear ht
 go_enter func164, ntmps164
 go_upto_region 1 with fail
 clear hW0
 go_upto_region 2 with (go_at_call 176; refine (IR _).mono ?_; rintro e wl ⟨rfl, hwl⟩; have hwl2 := hwl.symm; subst hwl2)
 go_upto_region 3 with (first | (refine wpList_load_row (by rfl) _ _ (by rfl) _ (by rfl) 187 _ (0, 0) _ HO0.out.r underlying187 (by rfl) (bZ _) ?_) | (go_at_call 177; refine HF.out.mono ?_; rintro e w1 ⟨rfl, hb1⟩; have HB1 := hid hb1; clear hb1) | (refine aK (by rfl) 42 _ _ (by rfl) (by rfl) (tpc tN) (tpc t) (by rfl) (by rfl) (aD _) (bC _ _) (aN _) ?_))
 refine bT (motive := fun W => Code.wp _ _ _ _ W) (Q := fun W => Own w L W w.heap.size (wyc k) 187 ∧ Own w L W (w.heap.size + 1) (tpc tN) 42 ∧ Own w L W w1.heap.size (tpc t) 42 ∧ PSt B L w L S W) ⟨(HO0.out.post HB1.out).post (aG _ _), (HO1.out.post HB1.out).post (aG _ _), Own.new (HP0.out.post HB1.out) _ _, (HP0.out.post HB1.out).al _⟩ ?_
 clear HO0 HO1 HP0 HB1 HF HS
 generalize w1.heap.size = gt
 rintro W2 ⟨o0, o1, o2, p2⟩
 have HO0 := hid o0
 have HO1 := hid o1
 have HO2 := hid o2
 have HP2 := hid p2
 have ct : W2.cell? ⟨gt, 0, none⟩ = some (.bool t.is) := o2.r.cell 0
 clear o0 o1 o2 p2
 obtain ⟨q, hq⟩ : ∃ q, q = t.is := ⟨_, rfl⟩
 rw [← hq] at ct
 have HQ := hid hq
 clear hq
 cases q with
 | true =>
  have HRR : Hid (MV S k 8 none = ⟨0#64, 0#64, t, S⟩) := hR0.out HQ.out.symm
  go_upto_region 4 with fail
  have := aS W2
  have hlt : gt < W2.heap.size := HO2.out.r.lt
  have HLT : Hid (∀ j v, (tpc t)[j]? = some v → W2.cell? ⟨gt, 0 + j, none⟩ = some v) := fun j v hv => by rw [ZqU, HO2.out.r.cell]; exact hv
  refine aQ (x0 := bB.start W2) 3 (by kernel_rfl) (by kernel_rfl) ?_
  simp only [List.take_succ_cons, List.take_zero, List.drop_succ_cons, List.drop_zero]
  repeat (first | (refine ZqN (by rfl) fun K hK => ?_; refine bD 42 _ (by rfl) gt 0 (by rfl) (tpc t) _ hlt HLT.out underlying42 (by rfl) (aD _) (hK _ ?_); clear hK K; simp only [Act.put, ZqA, ZqC, ZqB]) | (go_big_quiet_step (fail)))
  refine wpQuiet_nil ?_
  rintro w' ⟨x9, rfl⟩
  have HO9 : Hid (Own w L x9.1 (w.heap.size + 1) (tpc tN) 42) := HO1.out.post x9.below
  have HP9 : Hid (PSt B L w L S x9.1) := HP2.out.post x9.below
  go_wp2_with (refine aA (by rfl) _ _ _ (by rfl) (by rfl) _ _ _ (by rfl) (by rfl) HO9.out.r (aD _) (bC _ _) (aN _) ?_)
  refine ZqH (v := .tuple #[.int .u64 (0), .int .u64 (0), .agg (tpc (t))]) (aZ results164 _ _ (w.heap.size + 1) 42 _ (0, 0) _ _ _ (by rfl) (by rfl) (by rfl) (ZqW _ _ _ _ _ _ HO9.out.r) underlying42 (by rfl) (aD _)) rfl ⟨by rw [HRR.out]; rfl, L, by rw [HRR.out]; exact HP9.out.row HO9.out.n HO9.out.ge _⟩
 | false =>
  have hRR := hR1.out HQ.out.symm
  have hth := HTH.out HQ.out.symm
  have HRR : Hid (MV S k 8 none = _) := hRR
  clear hRR hR0 hR1 HTH HTN
  have c0 := HO0.out.r.wcl.b
  have c34 := HO0.out.r.wcl.ad
  have c35 := HO0.out.r.wcl.r
  by_cases hr : k.r = 2
  ·have hr2 : (k.r != 2) = false := by rw [hr]; rfl
   have eB : Hid (mvB S k 8 = 0#64) := by unfold Hid mvB; rw [if_pos hr]
   have eT : Hid (mvT S k 8 = S) := by unfold Hid mvT; rw [if_pos hr]
   clear hth
   go_upto_region 12 with fail
   go_wp2_with (first | (refine aC (by rfl) 42 _ (by rfl) (tpc tN) (by kernel_rfl) ?_) | (refine aA (by rfl) _ _ _ (by rfl) (by rfl) _ _ _ (by rfl) (by rfl) HO1.out.r (aD _) (bC _ _) (aN _) ?_))
   refine ZqH (v := .tuple #[.int .u64 (0), .int .u64 (0), .agg (tpc (tN))]) (aZ results164 _ _ (w.heap.size + 1) 42 _ (0, 0) _ _ _ (by rfl) (by rfl) (by rfl) (ZqW _ _ _ _ _ _ HO1.out.r) underlying42 (by rfl) (aD _)) rfl ⟨by rw [HRR.out]; show _ = Ending.returned (.tuple #[.int .u64 (n64 (mvB S k 8)), .int .u64 (n64 (0#64)), .agg (tpc tN)]); rw [eB.out]; try rfl, L, by rw [HRR.out]; show PSt B L w L (mvT S k 8) _; rw [eT.out]; exact HP2.out.row HO1.out.n HO1.out.ge _⟩
  ·have hr2 : (k.r != 2) = true := by simpa using hr
   have eB : Hid (n64 (mvB S k 8) = (S.ld (n64 k.ad) (8 : Nat)).1.1) := oA HSS.out (by simp [cW]) hth hr
   have eT : Hid (mvT S k 8 = (S.ld (n64 k.ad) (8 : Nat)).2) := by unfold Hid mvT; rw [if_neg hr]
   have hrg := mX HSS.out (n64 k.ad) 8 (by simp [cW]) hth
   have hwr : IntKind.u64.wrap (S.ld (n64 k.ad) (8 : Nat)).1.1 = (S.ld (n64 k.ad) (8 : Nat)).1.1 := by
    show _ % _ = _
    exact Int.emod_eq_of_lt hrg.1 hrg.2
   have hwr2 : IntKind.u64.wrap (S.ld (n64 k.ad) (8 : Nat)).1.1 = (S.ld (n64 k.ad) (8 : Nat)).1.1 := bI hrg.1 (by have := hrg.2; have := bM (mvB S k 8); rw [eB.out] at this; exact this)
   have HLD : Hid (Calls prog 178 #[.pointer (some ⟨k.b, 0, none⟩), .int .u64 (n64 k.ad), .int .i64 (8 : Nat)] W2 fun e w' => e = .returned (.tuple #[.int .u64 (S.ld (n64 k.ad) (8 : Nat)).1.1, .bool (S.ld (n64 k.ad) (8 : Nat)).1.2]) ∧ ∃ L', PSt B L W2 L' (S.ld (n64 k.ad) (8 : Nat)).2 w') := by rw [HK.out]; exact kR W2 HP2.out.p HSS.out.n.1 _ _ ⟨bF _, bM _⟩ (by omega) HSS.out.st HSS.out.n.2.2.1
   generalize (S.ld (n64 k.ad) (8 : Nat)).1.1 = vo at hwr hwr2 HLD eB
   generalize (S.ld (n64 k.ad) (8 : Nat)).1.2 = vb at HLD
   have HS1 : Hid (Sok (S.ld (n64 k.ad) (8 : Nat)).2) := HSS.out.ld _ _
   generalize (S.ld (n64 k.ad) (8 : Nat)).2 = S1 at HLD eT HS1
   clear hrg hth
   go_upto_region 9 with (go_at_call 178; refine HLD.out.mono ?_; rintro e w3 ⟨rfl, L1, hp3⟩; have HP3 := hid hp3; clear hp3)
   refine bT (motive := fun W => Code.wp _ _ _ _ W) (Q := fun W => Own w L1 W w.heap.size (wyc k) 187 ∧ Own w L1 W (w.heap.size + 1) (tpc tN) 42 ∧ PSt B L w L1 S1 W) ⟨HO0.out.bus HP3.out, HO1.out.bus HP3.out, HP2.out.trans HP3.out⟩ ?_
   clear HO0 HO1 HO2 HP2 HP3 HLD c0 c34 c35 ct
   rintro W4 ⟨o0, o1, p4⟩
   have HO0 := hid o0
   have HO1 := hid o1
   have HP2 := hid p4
   have c0 := o0.r.wcl.b
   have c34 := o0.r.wcl.ad
   have HKb : Hid (k.b = L1.b) := HK.out.trans p4.b.1.symm
   clear o0 o1 p4
   go_upto_region 12 with fail
   go_wp2_with (first | (refine aC (by rfl) 42 _ (by rfl) (tpc tN) (by kernel_rfl) ?_) | (refine aA (by rfl) _ _ _ (by rfl) (by rfl) _ _ _ (by rfl) (by rfl) HO1.out.r (aD _) (bC _ _) (aN _) ?_))
   refine ZqH (v := .tuple #[.int .u64 (vo), .int .u64 (0), .agg (tpc (tN))]) (aZ results164 _ _ (w.heap.size + 1) 42 _ (0, 0) _ _ _ (by rfl) (by rfl) (by rfl) (ZqW _ _ _ _ _ _ HO1.out.r) underlying42 (by rfl) (aD _)) rfl ⟨by rw [HRR.out]; show _ = Ending.returned (.tuple #[.int .u64 (n64 (mvB S k 8)), .int .u64 (n64 (0#64)), .agg (tpc tN)]); rw [eB.out]; try rfl, L1, by rw [HRR.out]; show PSt B L w L1 (mvT S k 8) _; rw [eT.out]; exact HP2.out.row HO1.out.n HO1.out.ge _⟩
theorem wA {B : Nat} {L : Lay} {S : St} (w : World) (h : PB B L S w) (hs : Sok S) (hT : Tb w) (hB : 0 < B) (k : Wy) (hk : k.b = L.b) (fn : Nat) (ps : Array Value) (f : BitVec 64 → BitVec 64)
  (hcf : ∀ x W, (callFunc fn (#[.int .u64 x] ++ ps)).run prog W = .ok (.enter fn (#[.int .u64 x] ++ ps)) W)
  (hM : ∀ L1 S1 W, PSt B L w L1 S1 W → ∀ x : BitVec 64, Calls prog fn (#[.int .u64 (n64 x)] ++ ps) W fun e w' => e = .returned (.int .u64 (n64 (f x))) ∧ Below W.heap.size W w') :
  Calls prog 164 #[.agg (wyc k), .func (.func fn) #[] ps] w fun e w' => e = .returned (mvR (MV S k 8 (some f))) ∧ ∃ L', PSt B L w L' (MV S k 8 (some f)).S w' := by
 obtain ⟨W0, hW0, r0, r1, b0, s0⟩ := cN w (wyc k) (tpc tN) 187 42
 have hzt := bU
 have HS := hid s0
 have HP : Hid (PB B L S W0) := h.later b0.out
 have HP0 : Hid (PSt B L w L S W0) := (PSt.refl h).post b0.out
 have HF : Hid (Calls prog 177 #[.agg (wyc k), .int .i64 (8 : Nat)] W0 fun e w' => e = .returned (.agg (tpc (fbd S k 8))) ∧ Below W0.heap.size W0 w') := eE W0 HP.out hs (hT.next b0.out) k hk 8 (by omega)
 have hlo : ∀ g, w.heap.size ≤ g → ¬ L.own g := fun g hg e => by have := h.own_hi _ e; omega
 have HO0 : Hid (Own w L W0 w.heap.size (wyc k) 187) := ⟨r0.out, hlo _ (ZqE _), ZqE _⟩
 have HO1 : Hid (Own w L W0 (w.heap.size + 1) (tpc tN) 42) := ⟨r1.out, hlo _ (by omega), by omega⟩
 have HTH : Hid ((fbd S k 8).is = false → fnd S.ram.length (n64 k.ad) (8 : Nat) < 6) := fun q => (cO (by simp [cW]) q).1
 have HTN : Hid ((fbd S k 8).is = false → fbd S k 8 = tN) := fun q => (cO (by simp [cW]) q).2.2.1
 have HSS := hid hs
 have HK := hid hk
 clear hT h s0 r0 r1 b0 HP hs hk
 have hnil : ∀ W, (binOp .neq 190 (.func (.func fn) #[] ps) .nilFunc).run prog W = .ok (.bool true) W := fun W => by kernel_rfl
 have HM := hid hM
 clear hM
 have hR0 : Hid ((fbd S k 8).is = true → MV S k 8 (some f) = ⟨0#64, 0#64, fbd S k 8, S⟩) := fun q => by simp only [MV, if_pos q]
 have hR1 : Hid ((fbd S k 8).is = false → MV S k 8 (some f) = ⟨mvB S k 8, bS 8 (f (mvB S k 8)), tN, ((mvT S k 8).sto2 (n64 k.ad) (8 : Nat) (n64 (bS 8 (f (mvB S k 8))))).2⟩) := fun q => by simp only [MV, q, Bool.false_eq_true, if_false]
 obtain ⟨t, ht⟩ : ∃ t, t = fbd S k 8 := ⟨_, rfl⟩
 rw [← ht] at HF HTH HTN hR0 hR1
 have HE := hid ht
 clear ht
 go_enter func164, ntmps164
 go_upto_region 1 with fail
 clear hW0
 go_upto_region 2 with (go_at_call 176; refine (IR _).mono ?_; rintro e wl ⟨rfl, hwl⟩; have hwl2 := hwl.symm; subst hwl2)
 go_upto_region 3 with (first | (refine wpList_load_row (by rfl) _ _ (by rfl) _ (by rfl) 187 _ (0, 0) _ HO0.out.r underlying187 (by rfl) (bZ _) ?_) | (go_at_call 177; refine HF.out.mono ?_; rintro e w1 ⟨rfl, hb1⟩; have HB1 := hid hb1; clear hb1) | (refine aK (by rfl) 42 _ _ (by rfl) (by rfl) (tpc tN) (tpc t) (by rfl) (by rfl) (aD _) (bC _ _) (aN _) ?_))
 refine bT (motive := fun W => Code.wp _ _ _ _ W) (Q := fun W => Own w L W w.heap.size (wyc k) 187 ∧ Own w L W (w.heap.size + 1) (tpc tN) 42 ∧ Own w L W w1.heap.size (tpc t) 42 ∧ PSt B L w L S W) ⟨(HO0.out.post HB1.out).post (aG _ _), (HO1.out.post HB1.out).post (aG _ _), Own.new (HP0.out.post HB1.out) _ _, (HP0.out.post HB1.out).al _⟩ ?_
 clear HO0 HO1 HP0 HB1 HF HS
 generalize w1.heap.size = gt
 rintro W2 ⟨o0, o1, o2, p2⟩
 have HO0 := hid o0
 have HO1 := hid o1
 have HO2 := hid o2
 have HP2 := hid p2
 have ct : W2.cell? ⟨gt, 0, none⟩ = some (.bool t.is) := o2.r.cell 0
 clear o0 o1 o2 p2
 obtain ⟨q, hq⟩ : ∃ q, q = t.is := ⟨_, rfl⟩
 rw [← hq] at ct
 have HQ := hid hq
 clear hq
 cases q with
 | true =>
  have HRR : Hid (MV S k 8 (some f) = ⟨0#64, 0#64, t, S⟩) := hR0.out HQ.out.symm
  go_upto_region 4 with fail
  have := aS W2
  have hlt : gt < W2.heap.size := HO2.out.r.lt
  have HLT : Hid (∀ j v, (tpc t)[j]? = some v → W2.cell? ⟨gt, 0 + j, none⟩ = some v) := fun j v hv => by rw [ZqU, HO2.out.r.cell]; exact hv
  refine aQ (x0 := bB.start W2) 3 (by kernel_rfl) (by kernel_rfl) ?_
  simp only [List.take_succ_cons, List.take_zero, List.drop_succ_cons, List.drop_zero]
  repeat (first | (refine ZqN (by rfl) fun K hK => ?_; refine bD 42 _ (by rfl) gt 0 (by rfl) (tpc t) _ hlt HLT.out underlying42 (by rfl) (aD _) (hK _ ?_); clear hK K; simp only [Act.put, ZqA, ZqC, ZqB]) | (go_big_quiet_step (fail)))
  refine wpQuiet_nil ?_
  rintro w' ⟨x9, rfl⟩
  have HO9 : Hid (Own w L x9.1 (w.heap.size + 1) (tpc tN) 42) := HO1.out.post x9.below
  have HP9 : Hid (PSt B L w L S x9.1) := HP2.out.post x9.below
  go_wp2_with (refine aA (by rfl) _ _ _ (by rfl) (by rfl) _ _ _ (by rfl) (by rfl) HO9.out.r (aD _) (bC _ _) (aN _) ?_)
  refine ZqH (v := .tuple #[.int .u64 (0), .int .u64 (0), .agg (tpc (t))]) (aZ results164 _ _ (w.heap.size + 1) 42 _ (0, 0) _ _ _ (by rfl) (by rfl) (by rfl) (ZqW _ _ _ _ _ _ HO9.out.r) underlying42 (by rfl) (aD _)) rfl ⟨by rw [HRR.out]; rfl, L, by rw [HRR.out]; exact HP9.out.row HO9.out.n HO9.out.ge _⟩
 | false =>
  have hRR := hR1.out HQ.out.symm
  have hth := HTH.out HQ.out.symm
  have HRR : Hid (MV S k 8 (some f) = _) := hRR
  clear hRR hR0 hR1 HTH HTN
  have c0 := HO0.out.r.wcl.b
  have c34 := HO0.out.r.wcl.ad
  have c35 := HO0.out.r.wcl.r
  by_cases hr : k.r = 2
  ·have hr2 : (k.r != 2) = false := by rw [hr]; rfl
   have eB : Hid (mvB S k 8 = 0#64) := by unfold Hid mvB; rw [if_pos hr]
   have eT : Hid (mvT S k 8 = S) := by unfold Hid mvT; rw [if_pos hr]
   clear hth
   have HFX : Hid (∀ W, Below W2.heap.size W2 W → Calls prog fn (#[.int .u64 (0)] ++ ps) W fun e w' => e = .returned (.int .u64 (n64 (f (mvB S k 8)))) ∧ Below W.heap.size W w') := fun W hb => by
    have q := HM.out L S W (HP2.out.post hb) (mvB S k 8)
    rw [show n64 (mvB S k 8) = 0 by rw [eB.out]; rfl] at q
    exact q
   have hcx := hcf (0)
   obtain ⟨y, hy⟩ : ∃ y, y = f (mvB S k 8) := ⟨_, rfl⟩
   rw [← hy] at HFX
   have HY := hid hy
   clear hy
   have hw1 : IntKind.u64.wrap (n64 y) = n64 (y) := bI (bF _) (bM _)
   have hw2 : IntKind.u64.wrap (n64 (y)) = n64 (y) := bI (bF _) (bM _)
   go_upto_region 11 with (refine (HFX.out _ (ZqD _ _)).mono ?_; rintro e w5 ⟨rfl, hb5⟩; have HB5 := hid hb5; clear hb5)
   refine bT (motive := fun W => Code.wp _ _ _ _ W) (Q := fun W => Own w L W w.heap.size (wyc k) 187 ∧ Own w L W (w.heap.size + 1) (tpc tN) 42 ∧ PSt B L w L S W) ⟨HO0.out.post HB5.out, HO1.out.post HB5.out, HP2.out.post HB5.out⟩ ?_
   clear HO0 HO1 HP2 HB5 HFX c0 c34
   rintro W6 ⟨o0, o1, p6⟩
   have HO0 := hid o0
   have HO1 := hid o1
   have HP2 := hid p6
   have c0 := o0.r.wcl.b
   have c34 := o0.r.wcl.ad
   have HSR : Hid (Calls prog 179 #[.pointer (some ⟨k.b, 0, none⟩), .int .u64 (n64 k.ad), .int .i64 (8 : Nat), .int .u64 (n64 (y))] W6 fun e w' => e = .returned (.bool ((S).sto2 (n64 k.ad) (8 : Nat) (n64 (y))).1) ∧ ∃ L', PSt B L W6 L' ((S).sto2 (n64 k.ad) (8 : Nat) (n64 (y))).2 w') := by rw [HK.out]; exact iO W6 p6.p HSS.out.n.1 _ _ ⟨bF _, bM _⟩ (by omega) HSS.out.st _
   clear o0 o1 p6
   generalize hS2 : ((S).sto2 (n64 k.ad) (8 : Nat) (n64 (y))).2 = S2 at HSR
   generalize ((S).sto2 (n64 k.ad) (8 : Nat) (n64 (y))).1 = b2 at HSR
   have HS2 : Hid (((S).sto2 (n64 k.ad) (8 : Nat) (n64 (y))).2 = S2) := hS2
   clear hS2
   go_upto_region 12 with (go_at_call 179; refine HSR.out.mono ?_; rintro e w7 ⟨rfl, L2, hp7⟩; have HP7 := hid hp7; clear hp7)
   have HO9 : Hid (Own w L2 w7 (w.heap.size + 1) (tpc tN) 42) := HO1.out.bus HP7.out
   go_wp2_with (first | (refine aC (by rfl) 42 _ (by rfl) (tpc tN) (by kernel_rfl) ?_) | (refine aA (by rfl) _ _ _ (by rfl) (by rfl) _ _ _ (by rfl) (by rfl) HO9.out.r (aD _) (bC _ _) (aN _) ?_))
   refine ZqH (v := .tuple #[.int .u64 (0), .int .u64 (n64 (y)), .agg (tpc (tN))]) (aZ results164 _ _ (w.heap.size + 1) 42 _ (0, 0) _ _ _ (by rfl) (by rfl) (by rfl) (ZqW _ _ _ _ _ _ HO9.out.r) underlying42 (by rfl) (aD _)) rfl ⟨by rw [HRR.out]; show _ = Ending.returned (.tuple #[.int .u64 (n64 (mvB S k 8)), .int .u64 (n64 (bS 8 (f (mvB S k 8)))), .agg (tpc tN)]); rw [← HY.out, eB.out, tV]; try rfl, L2, by rw [HRR.out]; show PSt B L w L2 ((mvT S k 8).sto2 _ _ (n64 (bS 8 (f (mvB S k 8))))).2 _; rw [eT.out, ← HY.out, tV, HS2.out]; exact (HP2.out.trans HP7.out).row HO9.out.n HO9.out.ge _⟩
  ·have hr2 : (k.r != 2) = true := by simpa using hr
   have eB : Hid (n64 (mvB S k 8) = (S.ld (n64 k.ad) (8 : Nat)).1.1) := oA HSS.out (by simp [cW]) hth hr
   have eT : Hid (mvT S k 8 = (S.ld (n64 k.ad) (8 : Nat)).2) := by unfold Hid mvT; rw [if_neg hr]
   have hrg := mX HSS.out (n64 k.ad) 8 (by simp [cW]) hth
   have hwr : IntKind.u64.wrap (S.ld (n64 k.ad) (8 : Nat)).1.1 = (S.ld (n64 k.ad) (8 : Nat)).1.1 := by
    show _ % _ = _
    exact Int.emod_eq_of_lt hrg.1 hrg.2
   have hwr2 : IntKind.u64.wrap (S.ld (n64 k.ad) (8 : Nat)).1.1 = (S.ld (n64 k.ad) (8 : Nat)).1.1 := bI hrg.1 (by have := hrg.2; have := bM (mvB S k 8); rw [eB.out] at this; exact this)
   have HLD : Hid (Calls prog 178 #[.pointer (some ⟨k.b, 0, none⟩), .int .u64 (n64 k.ad), .int .i64 (8 : Nat)] W2 fun e w' => e = .returned (.tuple #[.int .u64 (S.ld (n64 k.ad) (8 : Nat)).1.1, .bool (S.ld (n64 k.ad) (8 : Nat)).1.2]) ∧ ∃ L', PSt B L W2 L' (S.ld (n64 k.ad) (8 : Nat)).2 w') := by rw [HK.out]; exact kR W2 HP2.out.p HSS.out.n.1 _ _ ⟨bF _, bM _⟩ (by omega) HSS.out.st HSS.out.n.2.2.1
   generalize (S.ld (n64 k.ad) (8 : Nat)).1.1 = vo at hwr hwr2 HLD eB
   generalize (S.ld (n64 k.ad) (8 : Nat)).1.2 = vb at HLD
   have HS1 : Hid (Sok (S.ld (n64 k.ad) (8 : Nat)).2) := HSS.out.ld _ _
   generalize (S.ld (n64 k.ad) (8 : Nat)).2 = S1 at HLD eT HS1
   clear hrg hth
   go_upto_region 9 with (go_at_call 178; refine HLD.out.mono ?_; rintro e w3 ⟨rfl, L1, hp3⟩; have HP3 := hid hp3; clear hp3)
   refine bT (motive := fun W => Code.wp _ _ _ _ W) (Q := fun W => Own w L1 W w.heap.size (wyc k) 187 ∧ Own w L1 W (w.heap.size + 1) (tpc tN) 42 ∧ PSt B L w L1 S1 W) ⟨HO0.out.bus HP3.out, HO1.out.bus HP3.out, HP2.out.trans HP3.out⟩ ?_
   clear HO0 HO1 HO2 HP2 HP3 HLD c0 c34 c35 ct
   rintro W4 ⟨o0, o1, p4⟩
   have HO0 := hid o0
   have HO1 := hid o1
   have HP2 := hid p4
   have c0 := o0.r.wcl.b
   have c34 := o0.r.wcl.ad
   have HKb : Hid (k.b = L1.b) := HK.out.trans p4.b.1.symm
   clear o0 o1 p4
   have HFX : Hid (∀ W, Below W4.heap.size W4 W → Calls prog fn (#[.int .u64 (vo)] ++ ps) W fun e w' => e = .returned (.int .u64 (n64 (f (mvB S k 8)))) ∧ Below W.heap.size W w') := fun W hb => by
    have q := HM.out L1 S1 W (HP2.out.post hb) (mvB S k 8)
    rw [eB.out] at q
    exact q
   have hcx := hcf (vo)
   obtain ⟨y, hy⟩ : ∃ y, y = f (mvB S k 8) := ⟨_, rfl⟩
   rw [← hy] at HFX
   have HY := hid hy
   clear hy
   have hw1 : IntKind.u64.wrap (n64 y) = n64 (y) := bI (bF _) (bM _)
   have hw2 : IntKind.u64.wrap (n64 (y)) = n64 (y) := bI (bF _) (bM _)
   go_upto_region 11 with (refine (HFX.out _ (ZqD _ _)).mono ?_; rintro e w5 ⟨rfl, hb5⟩; have HB5 := hid hb5; clear hb5)
   refine bT (motive := fun W => Code.wp _ _ _ _ W) (Q := fun W => Own w L1 W w.heap.size (wyc k) 187 ∧ Own w L1 W (w.heap.size + 1) (tpc tN) 42 ∧ PSt B L w L1 S1 W) ⟨HO0.out.post HB5.out, HO1.out.post HB5.out, HP2.out.post HB5.out⟩ ?_
   clear HO0 HO1 HP2 HB5 HFX c0 c34
   rintro W6 ⟨o0, o1, p6⟩
   have HO0 := hid o0
   have HO1 := hid o1
   have HP2 := hid p6
   have c0 := o0.r.wcl.b
   have c34 := o0.r.wcl.ad
   have HSR : Hid (Calls prog 179 #[.pointer (some ⟨k.b, 0, none⟩), .int .u64 (n64 k.ad), .int .i64 (8 : Nat), .int .u64 (n64 (y))] W6 fun e w' => e = .returned (.bool ((S1).sto2 (n64 k.ad) (8 : Nat) (n64 (y))).1) ∧ ∃ L', PSt B L1 W6 L' ((S1).sto2 (n64 k.ad) (8 : Nat) (n64 (y))).2 w') := by rw [HKb.out]; exact iO W6 p6.p HS1.out.n.1 _ _ ⟨bF _, bM _⟩ (by omega) HS1.out.st _
   clear o0 o1 p6
   generalize hS2 : ((S1).sto2 (n64 k.ad) (8 : Nat) (n64 (y))).2 = S2 at HSR
   generalize ((S1).sto2 (n64 k.ad) (8 : Nat) (n64 (y))).1 = b2 at HSR
   have HS2 : Hid (((S1).sto2 (n64 k.ad) (8 : Nat) (n64 (y))).2 = S2) := hS2
   clear hS2
   go_upto_region 12 with (go_at_call 179; refine HSR.out.mono ?_; rintro e w7 ⟨rfl, L2, hp7⟩; have HP7 := hid hp7; clear hp7)
   have HO9 : Hid (Own w L2 w7 (w.heap.size + 1) (tpc tN) 42) := HO1.out.bus HP7.out
   go_wp2_with (first | (refine aC (by rfl) 42 _ (by rfl) (tpc tN) (by kernel_rfl) ?_) | (refine aA (by rfl) _ _ _ (by rfl) (by rfl) _ _ _ (by rfl) (by rfl) HO9.out.r (aD _) (bC _ _) (aN _) ?_))
   refine ZqH (v := .tuple #[.int .u64 (vo), .int .u64 (n64 (y)), .agg (tpc (tN))]) (aZ results164 _ _ (w.heap.size + 1) 42 _ (0, 0) _ _ _ (by rfl) (by rfl) (by rfl) (ZqW _ _ _ _ _ _ HO9.out.r) underlying42 (by rfl) (aD _)) rfl ⟨by rw [HRR.out]; show _ = Ending.returned (.tuple #[.int .u64 (n64 (mvB S k 8)), .int .u64 (n64 (bS 8 (f (mvB S k 8)))), .agg (tpc tN)]); rw [← HY.out, eB.out, tV]; try rfl, L2, by rw [HRR.out]; show PSt B L w L2 ((mvT S k 8).sto2 _ _ (n64 (bS 8 (f (mvB S k 8))))).2 _; rw [eT.out, ← HY.out, tV, HS2.out]; exact (HP2.out.trans HP7.out).row HO9.out.n HO9.out.ge _⟩
theorem QG (x u m : BitVec 64) (h : u &&& m = 0#64) : (x ||| u) &&& m = x &&& m := by
 apply BitVec.eq_of_getLsbD_eq
 intro i hi
 have h2 := congrArg (fun z : BitVec 64 => z.getLsbD i) h
 simp only [BitVec.getLsbD_and, BitVec.getLsbD_or, BitVec.getLsbD_zero] at h2 ⊢
 revert h2
 cases x.getLsbD i <;> cases u.getLsbD i <;> cases m.getLsbD i <;> simp
theorem gD (x m : BitVec 64) : x &&& m &&& m = x &&& m := by rw [BitVec.and_assoc, BitVec.and_self]
theorem TS (v : BitVec 64) : ¬ mq (v &&& 2234504#64 &&& ~~~6144#64) := by
 have e : (v &&& 2234504#64 &&& ~~~6144#64) >>> 11 &&& 3#64 = 0#64 := by
  rw [BitVec.and_assoc, BitVec.ushiftRight_and_distrib, BitVec.and_assoc, show ((2234504#64 &&& ~~~6144#64) >>> 11 &&& 3#64) = 0#64 from by decide]
  simp
 unfold mq
 rw [e]
 decide
theorem BG (v : BitVec 64) : stB v &&& 2234504#64 = if mq (v &&& 2234504#64) then v &&& 2234504#64 &&& ~~~6144#64 else v &&& 2234504#64 := by
 unfold stB
 rw [QG _ _ _ (by decide)]
 split
 ·rw [BitVec.and_assoc, BitVec.and_assoc, BitVec.and_assoc, show (2234504#64 &&& (~~~6144#64 &&& 2234504#64)) = 2234504#64 &&& ~~~6144#64 from by decide]
 ·exact gD _ _
theorem BJ (v : BitVec 64) : stB (stB v) = stB v := by
 have e : stB (stB v) = (if mq (stB v &&& 2234504#64) then stB v &&& 2234504#64 &&& ~~~6144#64 else stB v &&& 2234504#64) ||| 8589934592#64 := rfl
 rw [e, BG]
 clear e
 by_cases h : mq (v &&& 2234504#64)
 ·rw [if_pos h, if_neg (TS v)]
  unfold stB; rw [if_pos h]
 ·rw [if_neg h, if_neg h]
  unfold stB; rw [if_neg h]
theorem uC (s : Nat → BitVec 64) : prS (prS s) = prS s := by
 funext j
 match j with
 | 0 => exact BJ _
 | 1 => exact gD _ _
 | 2 => exact gD _ _
 | 3 => exact gD _ _
 | 4 => exact gD _ _
 | 5 => exact gD _ _
 | 6 => rfl
 | 7 => exact gD _ _
 | j + 8 => rfl
theorem uA : ∀ x : BitVec 8, pcl (pcl x) = pcl x := by decide +kernel
theorem EN (c : Nat → BitVec 8) : PC (PC c) = PC c := funext fun j => uA _
theorem EM (a : Nat → BitVec 64) : PA (PA a) = PA a := funext fun j => gD _ _
theorem upd_tw (f : Nat → BitVec 64) (i : Nat) (x : BitVec 64) : upd (upd f i x) i x = upd f i x := by
 funext j; unfold upd; split <;> rfl
theorem RH (v : Bool) (a : BitVec 64) (s : Int) : rok (rok v a s) (if rok v a s then a else 0#64) (if rok v a s then s else 0) = rok v a s := by
 cases h : rok v a s with
 | false => rfl
 | true =>
  have hv : v = true := by revert h; unfold rok; cases v <;> simp
  subst hv
  exact h
theorem fR (k : Cp) : PR (PR k) = PR k := by
 have h := RH k.rv k.ra k.rs
 have e1 : PR (PR k) = { pc := k.pc &&& ~~~1#64 &&& ~~~1#64, x := upd (upd k.x 0 0#64) 0 0#64, md := if (if k.md = 3 then (3 : Int) else 0) = 3 then 3 else 0, wt := k.wt, s := prS (prS k.s), c := PC (PC k.c), a := PA (PA k.a), rv := rok (rok k.rv k.ra k.rs) (if rok k.rv k.ra k.rs then k.ra else 0#64) (if rok k.rv k.ra k.rs then k.rs else 0), ra := if rok (rok k.rv k.ra k.rs) (if rok k.rv k.ra k.rs then k.ra else 0#64) (if rok k.rv k.ra k.rs then k.rs else 0) then (if rok k.rv k.ra k.rs then k.ra else 0#64) else 0#64, rs := if rok (rok k.rv k.ra k.rs) (if rok k.rv k.ra k.rs then k.ra else 0#64) (if rok k.rv k.ra k.rs then k.rs else 0) then (if rok k.rv k.ra k.rs then k.rs else 0) else 0 } := rfl
 rw [e1, h, gD, upd_tw, uC, EN, EM]
 unfold PR
 congr 1
 ·by_cases h3 : k.md = 3 <;> simp [h3]
 ·cases rok k.rv k.ra k.rs <;> simp
 ·cases rok k.rv k.ra k.rs <;> simp
theorem oH {P : Program} {W : World} {o : Oper} {a : Act} {K : Act → Prop} (t : TypeId) (parts : Array (Nat × Operand)) (ho : o.op = .build t parts) (cells : Array Value) (hc : P.built t (parts.map fun (i, x) => (i, a.eval x)).toList = some cells)
  (hk : K (a.put o.dst (.agg cells))) : o.quiet P a (fun w' => ∃ x : bB W, w' = x.1) K := by
 refine ⟨_, fun w hw => ?_, hk⟩
 obtain ⟨y, rfl⟩ := hw
 unfold Oper.quietAt execOp
 simp only [ho, Sem.run_bind, run_build y.1 t _ cells hc, Result.andThen_ok]
 exact ⟨rfl, rfl⟩
theorem UK (k : Cp) : (PR k).md = 0 ∨ (PR k).md = 3 := by
 show (if k.md = 3 then (3 : Int) else 0) = 0 ∨ (if k.md = 3 then (3 : Int) else 0) = 3
 split <;> simp
def xE (K : Cp) : Int := if K.md = 3 ∧ (K.s 0 &&& 131072#64) ≠ 0#64 then n64 (bfB (K.s 0)) else K.md
theorem PX (v : BitVec 64) : (n64 v != 0) = decide (v ≠ 0#64) := by
 have : n64 v = n64 0#64 ↔ v = 0#64 := bV
 have e : n64 0#64 = 0 := rfl
 rw [e] at this
 by_cases h : v = 0#64
 ·subst h; decide
 ·have h2 : ¬ n64 v = 0 := fun q => h (this.1 q)
  simp [h, h2]
theorem MR (k : Cp) (w : World) : Calls prog 160 #[.agg (cpc k)] w fun e w' => e = .returned (.int .i64 (xE (PR k))) ∧ Below w.heap.size w w' := by
 obtain ⟨W0, hW0, r0, b0, s0⟩ := cT w (cpc k) 31
 have HS := hid s0
 clear s0
 have HP : Hid (∀ W, Calls prog 10 #[.agg (cpc k)] W fun e w' => e = .returned (.agg (cpc (PR k))) ∧ Below W.heap.size W w') := fun W => jF k W
 have HM := UK k
 generalize PR k = K at HP HM ⊢
 have HX : Hid (xE K = if K.md = 3 ∧ (K.s 0 &&& 131072#64) ≠ 0#64 then n64 (bfB (K.s 0)) else K.md) := rfl
 obtain ⟨x, hx⟩ : ∃ x, x = xE K := ⟨_, rfl⟩
 rw [← hx] at HX ⊢
 clear hx
 go_enter func160, ntmps160
 go_upto_region 1 with fail
 clear hW0
 go_upto_region 2 with (first | (refine wpList_load_row (by rfl) _ _ (by rfl) _ (by rfl) 31 _ (0, 0) _ r0.out underlying31 (by rfl) (aB _) ?_) | (go_at_call 10; refine (HP.out _).mono ?_; rintro e w1 ⟨rfl, hb1⟩; have HB1 := hid hb1; clear hb1) | (refine aA (by rfl) _ _ _ (by rfl) (by rfl) _ _ _ (by rfl) (by rfl) (r0.out.later HB1.out (by rw [HS.out]; omega)) (aB _) (by rw [aE, aE]) (aO _) ?_))
 refine YE (motive := fun W => Code.wp _ _ _ _ W) (a := w) (B := w.heap.size) (n := w1.heap.size) (show Row _ w.heap.size (cpc K) 31 from ZqW _ _ _ _ _ _ (r0.out.later HB1.out (by rw [HS.out]; omega))) (aW (b0.out.trans (HB1.out.mono b0.out.size)) (ZqE _) _) (by simp) ?_
 clear r0 b0 HS HB1 HP
 intro W2 q0 c0 t0
 have BB : Hid (Below w.heap.size w W2) := c0
 have Km := q0.cls.md
 have K0 := q0.cls.s0
 have f0 := q0.froz
 clear q0 c0 t0
 have HF : Hid (∀ W, Calls prog 56 #[.int .u64 (n64 (K.s 0))] W fun e w' => e = .returned (.int .i64 (n64 (bfB (K.s 0)))) ∧ w' = W) := fun W => kT (K.s 0) W
 have b0 : bits .and .u64 (n64 (K.s 0)) 131072 = n64 (K.s 0 &&& 131072#64) := cQ _ 131072#64
 have b1 : (n64 (K.s 0 &&& 131072#64) != 0) = decide ((K.s 0 &&& 131072#64) ≠ 0#64) := PX _
 generalize n64 (bfB (K.s 0)) = y at HF HX
 by_cases hc : (K.s 0 &&& 131072#64) = 0#64
 ·rw [decide_eq_false (fun q => q hc)] at b1
  rw [if_neg (fun q => q.2 hc)] at HX
  generalize n64 (K.s 0 &&& 131072#64) = y0 at b0 b1
  clear hc
  rcases HM with h1 | h1
  ·rw [h1] at Km HX
   clear h1
   go_wp2
   go_ret
   exact ⟨by rw [HX.out]; rfl, BB.out⟩
  ·rw [h1] at Km HX
   clear h1
   go_wp2
   go_ret
   exact ⟨by rw [HX.out]; rfl, BB.out⟩
 ·rw [decide_eq_true hc] at b1
  rcases HM with h1 | h1
  ·rw [if_neg (fun q => by rw [h1] at q; exact absurd q.1 (by decide))] at HX
   generalize n64 (K.s 0 &&& 131072#64) = y0 at b0 b1
   clear hc
   rw [h1] at Km HX
   clear h1
   go_wp2
   go_ret
   exact ⟨by rw [HX.out]; rfl, BB.out⟩
  ·rw [if_pos ⟨h1, hc⟩] at HX
   generalize n64 (K.s 0 &&& 131072#64) = y0 at b0 b1
   clear hc
   rw [h1] at Km
   clear h1
   go_wp2_with (go_at_call 56; refine (HF.out _).mono ?_; rintro e wb ⟨rfl, hwb⟩; have hwb2 := hwb.symm; subst hwb2)
   go_ret
   exact ⟨by rw [HX.out]; rfl, BB.out⟩
theorem sO (k : Cp) (b : Nat) (ad : BitVec 64) (w : World) : Calls prog 137 #[.agg (cpc k), .pointer (some ⟨b, 0, none⟩), .int .u64 (n64 ad)] w fun e w' => e = .returned (.agg (wyc ⟨b, k.c, k.a, xE (PR k), ad, 1, false, 4, 5⟩)) ∧ Below w.heap.size w w' := by
 obtain ⟨W0, hW0, r0, r1, b0, s0⟩ := cN w (cpc k) wz 31 187
 have hz := rM
 have hlt : Hid (w.heap.size < W0.heap.size) := by unfold Hid; omega
 have HS := hid s0
 have HE : Hid (∀ W, Calls prog 160 #[.agg (cpc k)] W fun e w' => e = .returned (.int .i64 (xE (PR k))) ∧ Below W.heap.size W w') := fun W => MR k W
 generalize xE (PR k) = m at HE ⊢
 have HL1 : Hid (∀ j v, (pc k.c k.a)[j]? = some v → W0.cell? ⟨w.heap.size, 47 + j, none⟩ = some v) := r0.out.pmp
 have HL2 : Hid (∀ j v, (cpc k)[j]? = some v → W0.cell? ⟨w.heap.size, 0 + j, none⟩ = some v) := fun j v hv => by rw [ZqU, r0.out.cell]; exact hv
 clear s0
 go_enter func137, ntmps137
 go_upto_region 1 with fail
 clear hW0
 have := aS W0
 refine aQ (x0 := bB.start W0) 7 (by kernel_rfl) (by kernel_rfl) ?_
 simp only [List.take_succ_cons, List.take_zero, List.drop_succ_cons, List.drop_zero]
 repeat (first | (refine ZqN (by rfl) fun K hK => ?_; refine oH 187 _ (by rfl) (wyc ⟨b, k.c, k.a, m, ad, 1, false, 4, 5⟩) (by kernel_rfl) (hK _ ?_); clear hK K; simp only [Act.put, ZqA, ZqC, ZqB]) | (refine ZqN (by rfl) fun K hK => ?_; refine bD 27 _ (by rfl) w.heap.size 47 (by rfl) (pc k.c k.a) _ hlt.out HL1.out underlying27 (by rfl) (dU _ _) (hK _ ?_); clear hK K; simp only [Act.put, ZqA, ZqC, ZqB]) | (refine ZqN (by rfl) fun K hK => ?_; refine bD 31 _ (by rfl) w.heap.size 0 (by rfl) (cpc k) _ hlt.out HL2.out underlying31 (by rfl) (aB _) (hK _ ?_); clear hK K; simp only [Act.put, ZqA, ZqC, ZqB]) | (go_big_quiet_step (first | (go_at_call 160; exact bJ (HE.out _)))))
 refine wpQuiet_nil ?_
 rintro w' ⟨x9, rfl⟩
 have R9 : Hid (Row x9.1 (w.heap.size + 1) wz 187) := r1.out.later x9.below (by rw [HS.out]; omega)
 go_wp2_with (refine aA (by rfl) _ _ _ (by rfl) (by rfl) _ _ _ (by rfl) (by rfl) R9.out (bZ _) (by rw [uL, iJ]) (rL _) ?_)
 refine ZqH (v := .agg (wyc ⟨b, k.c, k.a, m, ad, 1, false, 4, 5⟩)) (ZqM results137 _ _ (w.heap.size + 1) 187 _ (0, 0) _ (by rfl) (ZqW _ _ _ _ _ _ R9.out) underlying187 (by rfl) (bZ _)) rfl ⟨rfl, aW (b0.out.trans (x9.below.mono b0.out.size)) (by omega) _⟩
theorem nR (k : Cp) (b : Nat) (ad : BitVec 64) (w : World) : Calls prog 128 #[.agg (cpc k), .pointer (some ⟨b, 0, none⟩), .int .u64 (n64 ad)] w fun e w' => e = .returned (.agg (wyc ⟨b, k.c, k.a, xE (PR k), ad, 2, false, 6, 7⟩)) ∧ Below w.heap.size w w' := by
 obtain ⟨W0, hW0, r0, r1, b0, s0⟩ := cN w (cpc k) wz 31 187
 have hz := rM
 have hlt : Hid (w.heap.size < W0.heap.size) := by unfold Hid; omega
 have HS := hid s0
 have HE : Hid (∀ W, Calls prog 160 #[.agg (cpc k)] W fun e w' => e = .returned (.int .i64 (xE (PR k))) ∧ Below W.heap.size W w') := fun W => MR k W
 generalize xE (PR k) = m at HE ⊢
 have HL1 : Hid (∀ j v, (pc k.c k.a)[j]? = some v → W0.cell? ⟨w.heap.size, 47 + j, none⟩ = some v) := r0.out.pmp
 have HL2 : Hid (∀ j v, (cpc k)[j]? = some v → W0.cell? ⟨w.heap.size, 0 + j, none⟩ = some v) := fun j v hv => by rw [ZqU, r0.out.cell]; exact hv
 clear s0
 go_enter func128, ntmps128
 go_upto_region 1 with fail
 clear hW0
 have := aS W0
 refine aQ (x0 := bB.start W0) 7 (by kernel_rfl) (by kernel_rfl) ?_
 simp only [List.take_succ_cons, List.take_zero, List.drop_succ_cons, List.drop_zero]
 repeat (first | (refine ZqN (by rfl) fun K hK => ?_; refine oH 187 _ (by rfl) (wyc ⟨b, k.c, k.a, m, ad, 2, false, 6, 7⟩) (by kernel_rfl) (hK _ ?_); clear hK K; simp only [Act.put, ZqA, ZqC, ZqB]) | (refine ZqN (by rfl) fun K hK => ?_; refine bD 27 _ (by rfl) w.heap.size 47 (by rfl) (pc k.c k.a) _ hlt.out HL1.out underlying27 (by rfl) (dU _ _) (hK _ ?_); clear hK K; simp only [Act.put, ZqA, ZqC, ZqB]) | (refine ZqN (by rfl) fun K hK => ?_; refine bD 31 _ (by rfl) w.heap.size 0 (by rfl) (cpc k) _ hlt.out HL2.out underlying31 (by rfl) (aB _) (hK _ ?_); clear hK K; simp only [Act.put, ZqA, ZqC, ZqB]) | (go_big_quiet_step (first | (go_at_call 160; exact bJ (HE.out _)))))
 refine wpQuiet_nil ?_
 rintro w' ⟨x9, rfl⟩
 have R9 : Hid (Row x9.1 (w.heap.size + 1) wz 187) := r1.out.later x9.below (by rw [HS.out]; omega)
 go_wp2_with (refine aA (by rfl) _ _ _ (by rfl) (by rfl) _ _ _ (by rfl) (by rfl) R9.out (bZ _) (by rw [uL, iJ]) (rL _) ?_)
 refine ZqH (v := .agg (wyc ⟨b, k.c, k.a, m, ad, 2, false, 6, 7⟩)) (ZqM results128 _ _ (w.heap.size + 1) 187 _ (0, 0) _ (by rfl) (ZqW _ _ _ _ _ _ R9.out) underlying187 (by rfl) (bZ _)) rfl ⟨rfl, aW (b0.out.trans (x9.below.mono b0.out.size)) (by omega) _⟩
theorem uV (v : BitVec 64) (w : World) : Calls prog 130 #[.int .u64 (n64 v)] w fun e w' => e = .returned (.func (.func 166) #[] #[.pointer (some ⟨w.heap.size, 0, none⟩)]) ∧ w' = w.alloc (.cells #[.int .u64 (n64 v)] 22) := by
 have hmf : ∀ (fn : Fn) (first cap : Array Value) (w : World), (Instr.makeFunc fn first cap).run prog w = .ok (.func fn first cap) w := fun _ _ _ _ => rfl
 go_enter func130, ntmps130
 go_wp2
 go_ret
 exact ⟨rfl, rfl⟩
theorem BY (v : Value) (x : Int) (g : Nat) (w : World) (hg : w.cell? ⟨g, 0, none⟩ = some v) : Calls prog 166 #[.int .u64 x, .pointer (some ⟨g, 0, none⟩)] w fun e w' => e = .returned v ∧ w' = w := by
 go_enter func166, ntmps166
 go_wp2
 go_ret
 exact ⟨rfl, rfl⟩
def dP (op : Int) : Int := if 77 ≤ op ∧ op ≤ 85 then 4 else if 88 ≤ op ∧ op ≤ 96 then 8 else 0
theorem BZ (op : Int) (w : World) : Calls prog 139 #[.int .i64 op] w fun e w' => e = .returned (.tuple #[.int .i64 (dP op), .bool (decide (dP op ≠ 0))]) ∧ w' = w := by
 obtain ⟨z, hz⟩ : ∃ z, z = dP op := ⟨_, rfl⟩
 rw [← hz]
 have HZ : Hid (z = if 77 ≤ op ∧ op ≤ 85 then 4 else if 88 ≤ op ∧ op ≤ 96 then 8 else 0) := hz
 clear hz
 rcases (show op < 77 ∨ (77 ≤ op ∧ op ≤ 85) ∨ (86 ≤ op ∧ op < 88) ∨ (88 ≤ op ∧ op ≤ 96) ∨ 96 < op by omega) with h | h | h | h | h
 ·have e : z = 0 := by rw [HZ.out, if_neg (by omega), if_neg (by omega)]
  have h1 : ¬ 77 ≤ op := by omega
  have h2 : ¬ 88 ≤ op := by omega
  clear HZ
  subst e
  go_enter func139, ntmps139
  go_wp2
  go_ret2
  exact ⟨rfl, rfl⟩
 ·have e : z = 4 := by rw [HZ.out, if_pos h]
  have h1 : 77 ≤ op := h.1
  have h2 : op ≤ 85 := h.2
  clear HZ h
  subst e
  go_enter func139, ntmps139
  go_wp2
  go_ret2
  exact ⟨rfl, rfl⟩
 ·have e : z = 0 := by rw [HZ.out, if_neg (by omega), if_neg (by omega)]
  have h1 : 77 ≤ op := by omega
  have h2 : ¬ op ≤ 85 := by omega
  have h3 : ¬ 88 ≤ op := by omega
  clear HZ h
  subst e
  go_enter func139, ntmps139
  go_wp2
  go_ret2
  exact ⟨rfl, rfl⟩
 ·have e : z = 8 := by rw [HZ.out, if_neg (by omega), if_pos h]
  have h1 : 77 ≤ op := by omega
  have h2 : ¬ op ≤ 85 := by omega
  have h3 : 88 ≤ op := h.1
  have h4 : op ≤ 96 := h.2
  clear HZ h
  subst e
  go_enter func139, ntmps139
  go_wp2
  go_ret2
  exact ⟨rfl, rfl⟩
 ·have e : z = 0 := by rw [HZ.out, if_neg (by omega), if_neg (by omega)]
  have h1 : 77 ≤ op := by omega
  have h2 : ¬ op ≤ 85 := by omega
  have h3 : 88 ≤ op := by omega
  have h4 : ¬ op ≤ 96 := by omega
  clear HZ h
  subst e
  go_enter func139, ntmps139
  go_wp2
  go_ret2
  exact ⟨rfl, rfl⟩
inductive Mde (B : Nat) (L : Lay) (w : World) : Value → Option (BitVec 64 → BitVec 64) → Prop
 | nil : Mde B L w .nilFunc none
 | one (fn : Nat) (p : Value) (f : BitVec 64 → BitVec 64) (hcf : ∀ x W, (callFunc fn #[.int .u64 x, p]).run prog W = .ok (.enter fn #[.int .u64 x, p]) W)
   (hM : ∀ L1 S1 W, PSt B L w L1 S1 W → ∀ x : BitVec 64, Calls prog fn #[.int .u64 (n64 x), p] W fun e w' => e = .returned (.int .u64 (n64 (f x))) ∧ Below W.heap.size W w') : Mde B L w (.func (.func fn) #[] #[p]) (some f)
 | two (fn : Nat) (p q : Value) (f : BitVec 64 → BitVec 64) (hcf : ∀ x W, (callFunc fn #[.int .u64 x, p, q]).run prog W = .ok (.enter fn #[.int .u64 x, p, q]) W)
   (hM : ∀ L1 S1 W, PSt B L w L1 S1 W → ∀ x : BitVec 64, Calls prog fn #[.int .u64 (n64 x), p, q] W fun e w' => e = .returned (.int .u64 (n64 (f x))) ∧ Below W.heap.size W w') : Mde B L w (.func (.func fn) #[] #[p, q]) (some f)
theorem Mde.later {B : Nat} {L : Lay} {w w' : World} {M : Value} {f : Option (BitVec 64 → BitVec 64)} (h : Mde B L w M f) (hb : Below w.heap.size w w') : Mde B L w' M f := by
 cases h with
 | nil => exact .nil
 | one fn p f hcf hM => exact .one fn p f hcf (fun L1 S1 W hp => hM L1 S1 W (hp.pre hb))
 | two fn p q f hcf hM => exact .two fn p q f hcf (fun L1 S1 W hp => hM L1 S1 W (hp.pre hb))
theorem YP {B : Nat} {L : Lay} {S : St} (w : World) (h : PB B L S w) (hs : Sok S) (hT : Tb w) (hB : 0 < B) (k : Wy) (hk : k.b = L.b) (M : Value) (f : Option (BitVec 64 → BitVec 64)) (hM : Mde B L w M f) :
  Calls prog 161 #[.agg (wyc k), M] w fun e w' => e = .returned (mvR (MV S k 1 f)) ∧ ∃ L', PSt B L w L' (MV S k 1 f).S w' := by
 cases hM with
 | nil => exact IY w h hs hT hB k hk
 | one fn p f hcf hM => exact vX w h hs hT hB k hk fn #[p] f (by simpa using hcf) (by simpa using hM)
 | two fn p q f hcf hM => exact vX w h hs hT hB k hk fn #[p, q] f (by simpa using hcf) (by simpa using hM)
theorem YQ {B : Nat} {L : Lay} {S : St} (w : World) (h : PB B L S w) (hs : Sok S) (hT : Tb w) (hB : 0 < B) (k : Wy) (hk : k.b = L.b) (M : Value) (f : Option (BitVec 64 → BitVec 64)) (hM : Mde B L w M f) :
  Calls prog 162 #[.agg (wyc k), M] w fun e w' => e = .returned (mvR (MV S k 2 f)) ∧ ∃ L', PSt B L w L' (MV S k 2 f).S w' := by
 cases hM with
 | nil => exact IZ w h hs hT hB k hk
 | one fn p f hcf hM => exact vY w h hs hT hB k hk fn #[p] f (by simpa using hcf) (by simpa using hM)
 | two fn p q f hcf hM => exact vY w h hs hT hB k hk fn #[p, q] f (by simpa using hcf) (by simpa using hM)
theorem YR {B : Nat} {L : Lay} {S : St} (w : World) (h : PB B L S w) (hs : Sok S) (hT : Tb w) (hB : 0 < B) (k : Wy) (hk : k.b = L.b) (M : Value) (f : Option (BitVec 64 → BitVec 64)) (hM : Mde B L w M f) :
  Calls prog 163 #[.agg (wyc k), M] w fun e w' => e = .returned (mvR (MV S k 4 f)) ∧ ∃ L', PSt B L w L' (MV S k 4 f).S w' := by
 cases hM with
 | nil => exact JA w h hs hT hB k hk
 | one fn p f hcf hM => exact vZ w h hs hT hB k hk fn #[p] f (by simpa using hcf) (by simpa using hM)
 | two fn p q f hcf hM => exact vZ w h hs hT hB k hk fn #[p, q] f (by simpa using hcf) (by simpa using hM)
theorem YS {B : Nat} {L : Lay} {S : St} (w : World) (h : PB B L S w) (hs : Sok S) (hT : Tb w) (hB : 0 < B) (k : Wy) (hk : k.b = L.b) (M : Value) (f : Option (BitVec 64 → BitVec 64)) (hM : Mde B L w M f) :
  Calls prog 164 #[.agg (wyc k), M] w fun e w' => e = .returned (mvR (MV S k 8 f)) ∧ ∃ L', PSt B L w L' (MV S k 8 f).S w' := by
 cases hM with
 | nil => exact JB w h hs hT hB k hk
 | one fn p f hcf hM => exact wA w h hs hT hB k hk fn #[p] f (by simpa using hcf) (by simpa using hM)
 | two fn p q f hcf hM => exact wA w h hs hT hB k hk fn #[p, q] f (by simpa using hcf) (by simpa using hM)
def PL (S : St) (k : Wy) (sz : Int) (f : Option (BitVec 64 → BitVec 64)) : Mv := if sz = 1 then MV S k 1 f else if sz = 2 then MV S k 2 f else if sz = 4 then MV S k 4 f else if sz = 8 then MV S k 8 f else ⟨0#64, 0#64, tS k.mi k.ad, S⟩
def AT (S : St) (k : Wy) (sz : Int) (f : Option (BitVec 64 → BitVec 64)) : Mv := if sz = 4 ∨ sz = 8 then PL S { k with ra := true } sz f else ⟨0#64, 0#64, tS k.mi k.ad, S⟩
theorem uB {B : Nat} {L : Lay} {S : St} (w : World) (h : PB B L S w) (hs : Sok S) (hT : Tb w) (hB : 0 < B) (k : Wy) (hk : k.b = L.b) (sz : Int) (M : Value) (f : Option (BitVec 64 → BitVec 64)) (hM : Mde B L w M f) :
  Calls prog 129 #[.agg (wyc k), .int .i64 sz, M] w fun e w' => e = .returned (mvR (PL S k sz f)) ∧ ∃ L', PSt B L w L' (PL S k sz f).S w' := by
 obtain ⟨W0, hW0, r0, r1, b0, s0⟩ := cN w (wyc k) (tpc tN) 187 42
 have hzt := bU
 have HS := hid s0
 have HP0 : Hid (PSt B L w L S W0) := (PSt.refl h).post b0.out
 have hlo : ∀ g, w.heap.size ≤ g → ¬ L.own g := fun g hg e => by have := h.own_hi _ e; omega
 have HO0 : Hid (Own w L W0 w.heap.size (wyc k) 187) := ⟨r0.out, hlo _ (ZqE _), ZqE _⟩
 have HO1 : Hid (Own w L W0 (w.heap.size + 1) (tpc tN) 42) := ⟨r1.out, hlo _ (by omega), by omega⟩
 have HMD : Hid (Mde B L W0 M f) := hM.later b0.out
 have HT : Hid (Tb W0) := hT.next b0.out
 have HSS := hid hs
 have HK := hid hk
 have HST : Hid (∀ ca W, Calls prog 165 #[.agg (wyc k), .int .u64 ca] W fun e w' => e = .returned (.agg (tpc (tS ca k.ad))) ∧ Below W.heap.size W w') := fun ca W => nQ k ca W
 have c37 := HO0.out.r.wcl.mi
 have HM1 : Hid (Calls prog 161 #[.agg (wyc k), M] W0 fun e w' => e = .returned (.tuple #[.int .u64 (n64 (MV S k 1 f).old), .int .u64 (n64 (MV S k 1 f).st), .agg (tpc (MV S k 1 f).t)]) ∧ ∃ L', PSt B L W0 L' (MV S k 1 f).S w') := YP W0 HP0.out.p hs HT.out hB k hk M f HMD.out
 have HM2 : Hid (Calls prog 162 #[.agg (wyc k), M] W0 fun e w' => e = .returned (.tuple #[.int .u64 (n64 (MV S k 2 f).old), .int .u64 (n64 (MV S k 2 f).st), .agg (tpc (MV S k 2 f).t)]) ∧ ∃ L', PSt B L W0 L' (MV S k 2 f).S w') := YQ W0 HP0.out.p hs HT.out hB k hk M f HMD.out
 have HM4 : Hid (Calls prog 163 #[.agg (wyc k), M] W0 fun e w' => e = .returned (.tuple #[.int .u64 (n64 (MV S k 4 f).old), .int .u64 (n64 (MV S k 4 f).st), .agg (tpc (MV S k 4 f).t)]) ∧ ∃ L', PSt B L W0 L' (MV S k 4 f).S w') := YR W0 HP0.out.p hs HT.out hB k hk M f HMD.out
 have HM8 : Hid (Calls prog 164 #[.agg (wyc k), M] W0 fun e w' => e = .returned (.tuple #[.int .u64 (n64 (MV S k 8 f).old), .int .u64 (n64 (MV S k 8 f).st), .agg (tpc (MV S k 8 f).t)]) ∧ ∃ L', PSt B L W0 L' (MV S k 8 f).S w') := YS W0 HP0.out.p hs HT.out hB k hk M f HMD.out
 have HE : Hid (PL S k sz f = if sz = 1 then MV S k 1 f else if sz = 2 then MV S k 2 f else if sz = 4 then MV S k 4 f else if sz = 8 then MV S k 8 f else ⟨0#64, 0#64, tS k.mi k.ad, S⟩) := rfl
 obtain ⟨m, hm⟩ : ∃ m, m = PL S k sz f := ⟨_, rfl⟩
 rw [← hm] at HE ⊢
 clear hm
 generalize MV S k 1 f = m1 at HM1 HE
 generalize MV S k 2 f = m2 at HM2 HE
 generalize MV S k 4 f = m4 at HM4 HE
 generalize MV S k 8 f = m8 at HM8 HE
 clear hT h s0 r0 r1 b0 hs hk HMD HT hM
 go_enter func129, ntmps129
 go_upto_region 1 with fail
 clear hW0
 by_cases h1 : sz = 1
 ·have e1 : (sz == 1) = true := by rw [h1]; rfl
  have HE2 : Hid (m = m1) := by unfold Hid; rw [HE.out, if_pos h1]
  clear HE h1
  go_wp2_with (first | (refine wpList_load_row (by rfl) _ _ (by rfl) _ (by rfl) 187 _ (0, 0) _ HO0.out.r underlying187 (by rfl) (bZ _) ?_) | (go_at_call 161; refine HM1.out.mono ?_; rintro e w1 ⟨rfl, L1, hp1⟩; have HP1 := hid hp1; have HO2 : Hid (Own w L1 w1 (w.heap.size + 1) (tpc tN) 42) := HO1.out.bus hp1; clear hp1) | (refine aA (by rfl) _ _ _ (by rfl) (by rfl) _ _ _ (by rfl) (by rfl) HO2.out.r (aD _) (bC _ _) (aN _) ?_))
  refine ZqH (v := .tuple #[.int .u64 (n64 m1.old), .int .u64 (n64 m1.st), .agg (tpc (m1.t))]) (aZ results129 _ _ (w.heap.size + 1) 42 _ (0, 0) _ _ _ (by rfl) (by rfl) (by rfl) (ZqW _ _ _ _ _ _ HO2.out.r) underlying42 (by rfl) (aD _)) rfl ⟨by rw [HE2.out]; rfl, L1, by rw [HE2.out]; exact (HP0.out.trans HP1.out).row HO2.out.n HO2.out.ge _⟩
 have e1 : (sz == 1) = false := by simpa using h1
 by_cases h2 : sz = 2
 ·have e2 : (sz == 2) = true := by rw [h2]; rfl
  have HE2 : Hid (m = m2) := by unfold Hid; rw [HE.out, if_neg h1, if_pos h2]
  clear HE h2
  go_wp2_with (first | (refine wpList_load_row (by rfl) _ _ (by rfl) _ (by rfl) 187 _ (0, 0) _ HO0.out.r underlying187 (by rfl) (bZ _) ?_) | (go_at_call 162; refine HM2.out.mono ?_; rintro e w1 ⟨rfl, L1, hp1⟩; have HP1 := hid hp1; have HO2 : Hid (Own w L1 w1 (w.heap.size + 1) (tpc tN) 42) := HO1.out.bus hp1; clear hp1) | (refine aA (by rfl) _ _ _ (by rfl) (by rfl) _ _ _ (by rfl) (by rfl) HO2.out.r (aD _) (bC _ _) (aN _) ?_))
  refine ZqH (v := .tuple #[.int .u64 (n64 m2.old), .int .u64 (n64 m2.st), .agg (tpc (m2.t))]) (aZ results129 _ _ (w.heap.size + 1) 42 _ (0, 0) _ _ _ (by rfl) (by rfl) (by rfl) (ZqW _ _ _ _ _ _ HO2.out.r) underlying42 (by rfl) (aD _)) rfl ⟨by rw [HE2.out]; rfl, L1, by rw [HE2.out]; exact (HP0.out.trans HP1.out).row HO2.out.n HO2.out.ge _⟩
 have e2 : (sz == 2) = false := by simpa using h2
 by_cases h4 : sz = 4
 ·have e4 : (sz == 4) = true := by rw [h4]; rfl
  have HE2 : Hid (m = m4) := by unfold Hid; rw [HE.out, if_neg h1, if_neg h2, if_pos h4]
  clear HE h4
  go_wp2_with (first | (refine wpList_load_row (by rfl) _ _ (by rfl) _ (by rfl) 187 _ (0, 0) _ HO0.out.r underlying187 (by rfl) (bZ _) ?_) | (go_at_call 163; refine HM4.out.mono ?_; rintro e w1 ⟨rfl, L1, hp1⟩; have HP1 := hid hp1; have HO2 : Hid (Own w L1 w1 (w.heap.size + 1) (tpc tN) 42) := HO1.out.bus hp1; clear hp1) | (refine aA (by rfl) _ _ _ (by rfl) (by rfl) _ _ _ (by rfl) (by rfl) HO2.out.r (aD _) (bC _ _) (aN _) ?_))
  refine ZqH (v := .tuple #[.int .u64 (n64 m4.old), .int .u64 (n64 m4.st), .agg (tpc (m4.t))]) (aZ results129 _ _ (w.heap.size + 1) 42 _ (0, 0) _ _ _ (by rfl) (by rfl) (by rfl) (ZqW _ _ _ _ _ _ HO2.out.r) underlying42 (by rfl) (aD _)) rfl ⟨by rw [HE2.out]; rfl, L1, by rw [HE2.out]; exact (HP0.out.trans HP1.out).row HO2.out.n HO2.out.ge _⟩
 have e4 : (sz == 4) = false := by simpa using h4
 by_cases h8 : sz = 8
 ·have e8 : (sz == 8) = true := by rw [h8]; rfl
  have HE2 : Hid (m = m8) := by unfold Hid; rw [HE.out, if_neg h1, if_neg h2, if_neg h4, if_pos h8]
  clear HE h8
  go_wp2_with (first | (refine wpList_load_row (by rfl) _ _ (by rfl) _ (by rfl) 187 _ (0, 0) _ HO0.out.r underlying187 (by rfl) (bZ _) ?_) | (go_at_call 164; refine HM8.out.mono ?_; rintro e w1 ⟨rfl, L1, hp1⟩; have HP1 := hid hp1; have HO2 : Hid (Own w L1 w1 (w.heap.size + 1) (tpc tN) 42) := HO1.out.bus hp1; clear hp1) | (refine aA (by rfl) _ _ _ (by rfl) (by rfl) _ _ _ (by rfl) (by rfl) HO2.out.r (aD _) (bC _ _) (aN _) ?_))
  refine ZqH (v := .tuple #[.int .u64 (n64 m8.old), .int .u64 (n64 m8.st), .agg (tpc (m8.t))]) (aZ results129 _ _ (w.heap.size + 1) 42 _ (0, 0) _ _ _ (by rfl) (by rfl) (by rfl) (ZqW _ _ _ _ _ _ HO2.out.r) underlying42 (by rfl) (aD _)) rfl ⟨by rw [HE2.out]; rfl, L1, by rw [HE2.out]; exact (HP0.out.trans HP1.out).row HO2.out.n HO2.out.ge _⟩
 have e8 : (sz == 8) = false := by simpa using h8
 have HE2 : Hid (m = ⟨0#64, 0#64, tS k.mi k.ad, S⟩) := by unfold Hid; rw [HE.out, if_neg h1, if_neg h2, if_neg h4, if_neg h8]
 clear HE h1 h2 h4 h8
 go_wp2_with (first | (refine wpList_load_row (by rfl) _ _ (by rfl) _ (by rfl) 187 _ (0, 0) _ HO0.out.r underlying187 (by rfl) (bZ _) ?_) | (go_at_call 165; refine (HST.out _ _).mono ?_; rintro e w1 ⟨rfl, hb1⟩; have HB1 := hid hb1; clear hb1) | (refine aA (by rfl) _ _ _ (by rfl) (by rfl) _ _ _ (by rfl) (by rfl) (HO1.out.post HB1.out).r (aD _) (bC _ _) (aN _) ?_))
 refine ZqH (v := .tuple #[.int .u64 (0), .int .u64 (0), .agg (tpc (tS k.mi k.ad))]) (aZ results129 _ _ (w.heap.size + 1) 42 _ (0, 0) _ _ _ (by rfl) (by rfl) (by rfl) (ZqW _ _ _ _ _ _ (HO1.out.post HB1.out).r) underlying42 (by rfl) (aD _)) rfl ⟨by rw [HE2.out]; rfl, L, by rw [HE2.out]; exact (HP0.out.post HB1.out).row HO1.out.n HO1.out.ge _⟩
theorem pM {B : Nat} {L : Lay} {S : St} (w : World) (h : PB B L S w) (hs : Sok S) (hT : Tb w) (hB : 0 < B) (k : Wy) (hk : k.b = L.b) (sz : Int) (M : Value) (f : Option (BitVec 64 → BitVec 64)) (hM : Mde B L w M f) :
  Calls prog 138 #[.agg (wyc k), .int .i64 sz, M] w fun e w' => e = .returned (mvR (AT S k sz f)) ∧ ∃ L', PSt B L w L' (AT S k sz f).S w' := by
 obtain ⟨W0, hW0, r0, r1, b0, s0⟩ := cN w (wyc k) (tpc tN) 187 42
 have hzt := bU
 have HS := hid s0
 have HP0 : Hid (PSt B L w L S W0) := (PSt.refl h).post b0.out
 have hlo : ∀ g, w.heap.size ≤ g → ¬ L.own g := fun g hg e => by have := h.own_hi _ e; omega
 have HO0 : Hid (Own w L W0 w.heap.size (wyc k) 187) := ⟨r0.out, hlo _ (ZqE _), ZqE _⟩
 have HO1 : Hid (Own w L W0 (w.heap.size + 1) (tpc tN) 42) := ⟨r1.out, hlo _ (by omega), by omega⟩
 have HMD : Hid (Mde B L W0 M f) := hM.later b0.out
 have HT : Hid (Tb W0) := hT.next b0.out
 have HSS := hid hs
 have HK := hid hk
 have HST : Hid (∀ ca W, Calls prog 165 #[.agg (wyc k), .int .u64 ca] W fun e w' => e = .returned (.agg (tpc (tS ca k.ad))) ∧ Below W.heap.size W w') := fun ca W => nQ k ca W
 have c37 := HO0.out.r.wcl.mi
 have HPL : Hid (∀ W, Below w.heap.size w W → Calls prog 129 #[.agg (wyc { k with ra := true }), .int .i64 sz, M] W fun e w' => e = .returned (.tuple #[.int .u64 (n64 (PL S { k with ra := true } sz f).old), .int .u64 (n64 (PL S { k with ra := true } sz f).st), .agg (tpc (PL S { k with ra := true } sz f).t)]) ∧ ∃ L', PSt B L W L' (PL S { k with ra := true } sz f).S w') := fun W hb => uB W (h.later hb) hs (hT.next hb) hB { k with ra := true } hk sz M f (hM.later hb)
 have HB0 : Hid (Below w.heap.size w W0) := b0
 have HE : Hid (AT S k sz f = if sz = 4 ∨ sz = 8 then PL S { k with ra := true } sz f else ⟨0#64, 0#64, tS k.mi k.ad, S⟩) := rfl
 obtain ⟨m, hm⟩ : ∃ m, m = AT S k sz f := ⟨_, rfl⟩
 rw [← hm] at HE ⊢
 clear hm
 generalize PL S { k with ra := true } sz f = m1 at HPL HE
 have f0 := r0.out.froz
 have c36 := HO0.out.r.wcl.ra
 clear hT h s0 r0 r1 b0 hs hk HMD HT hM
 go_enter func138, ntmps138
 go_upto_region 1 with fail
 clear hW0
 by_cases hz : sz = 4 ∨ sz = 8
 ·have HE2 : Hid (m = m1) := by unfold Hid; rw [HE.out, if_pos hz]
  have e4 : (sz != 4) = true → (sz != 8) = false := fun q => by rcases hz with e | e; subst e; cases q; subst e; rfl
  clear HE hz
  rcases Bool.eq_false_or_eq_true (sz != 4) with e | e
  ·have e8 := e4 e
   clear e4
   go_upto_region 4 with fail
   refine bT (motive := fun W => Code.wp _ _ _ _ W) (Q := fun W => Own w L W w.heap.size (wyc { k with ra := true }) 187 ∧ Own w L W (w.heap.size + 1) (tpc tN) 42 ∧ PSt B L w L S W ∧ Below w.heap.size w W) ⟨⟨by have q := HO0.out.r.put (i := 36) (.bool true); rw [MQ] at q; exact q, HO0.out.n, HO0.out.ge⟩, ⟨HO1.out.r.other (by omega) _, HO1.out.n, HO1.out.ge⟩, HP0.out.put HO0.out.n HO0.out.ge _ _, aM HB0.out (ZqE _) _⟩ ?_
   clear HO0 HO1 HP0 HB0 c36 c37 f0
   rintro W2 ⟨o0, o1, p2, b2⟩
   have HO0 := hid o0
   have HO1 := hid o1
   have HP2 := hid p2
   have HC : Hid (Calls prog 129 #[.agg (wyc { k with ra := true }), .int .i64 sz, M] W2 fun e w' => e = .returned (.tuple #[.int .u64 (n64 m1.old), .int .u64 (n64 m1.st), .agg (tpc m1.t)]) ∧ ∃ L', PSt B L W2 L' m1.S w') := HPL.out W2 b2
   clear o0 o1 p2 b2 HPL
   go_wp2_with (first | (refine wpList_load_row (by rfl) _ _ (by rfl) _ (by rfl) 187 _ (0, 0) _ HO0.out.r underlying187 (by rfl) (bZ _) ?_) | (go_at_call 129; refine HC.out.mono ?_; rintro e w1 ⟨rfl, L1, hp1⟩; have HP1 := hid hp1; have HO2 : Hid (Own w L1 w1 (w.heap.size + 1) (tpc tN) 42) := HO1.out.bus hp1; clear hp1) | (refine aA (by rfl) _ _ _ (by rfl) (by rfl) _ _ _ (by rfl) (by rfl) HO2.out.r (aD _) (bC _ _) (aN _) ?_))
   refine ZqH (v := .tuple #[.int .u64 (n64 m1.old), .int .u64 (n64 m1.st), .agg (tpc (m1.t))]) (aZ results138 _ _ (w.heap.size + 1) 42 _ (0, 0) _ _ _ (by rfl) (by rfl) (by rfl) (ZqW _ _ _ _ _ _ HO2.out.r) underlying42 (by rfl) (aD _)) rfl ⟨by rw [HE2.out]; rfl, L1, by rw [HE2.out]; exact (HP2.out.trans HP1.out).row HO2.out.n HO2.out.ge _⟩
  ·clear e4
   go_upto_region 4 with fail
   refine bT (motive := fun W => Code.wp _ _ _ _ W) (Q := fun W => Own w L W w.heap.size (wyc { k with ra := true }) 187 ∧ Own w L W (w.heap.size + 1) (tpc tN) 42 ∧ PSt B L w L S W ∧ Below w.heap.size w W) ⟨⟨by have q := HO0.out.r.put (i := 36) (.bool true); rw [MQ] at q; exact q, HO0.out.n, HO0.out.ge⟩, ⟨HO1.out.r.other (by omega) _, HO1.out.n, HO1.out.ge⟩, HP0.out.put HO0.out.n HO0.out.ge _ _, aM HB0.out (ZqE _) _⟩ ?_
   clear HO0 HO1 HP0 HB0 c36 c37 f0
   rintro W2 ⟨o0, o1, p2, b2⟩
   have HO0 := hid o0
   have HO1 := hid o1
   have HP2 := hid p2
   have HC : Hid (Calls prog 129 #[.agg (wyc { k with ra := true }), .int .i64 sz, M] W2 fun e w' => e = .returned (.tuple #[.int .u64 (n64 m1.old), .int .u64 (n64 m1.st), .agg (tpc m1.t)]) ∧ ∃ L', PSt B L W2 L' m1.S w') := HPL.out W2 b2
   clear o0 o1 p2 b2 HPL
   go_wp2_with (first | (refine wpList_load_row (by rfl) _ _ (by rfl) _ (by rfl) 187 _ (0, 0) _ HO0.out.r underlying187 (by rfl) (bZ _) ?_) | (go_at_call 129; refine HC.out.mono ?_; rintro e w1 ⟨rfl, L1, hp1⟩; have HP1 := hid hp1; have HO2 : Hid (Own w L1 w1 (w.heap.size + 1) (tpc tN) 42) := HO1.out.bus hp1; clear hp1) | (refine aA (by rfl) _ _ _ (by rfl) (by rfl) _ _ _ (by rfl) (by rfl) HO2.out.r (aD _) (bC _ _) (aN _) ?_))
   refine ZqH (v := .tuple #[.int .u64 (n64 m1.old), .int .u64 (n64 m1.st), .agg (tpc (m1.t))]) (aZ results138 _ _ (w.heap.size + 1) 42 _ (0, 0) _ _ _ (by rfl) (by rfl) (by rfl) (ZqW _ _ _ _ _ _ HO2.out.r) underlying42 (by rfl) (aD _)) rfl ⟨by rw [HE2.out]; rfl, L1, by rw [HE2.out]; exact (HP2.out.trans HP1.out).row HO2.out.n HO2.out.ge _⟩
 ·have e4 : (sz != 4) = true := by simp; omega
  have e8 : (sz != 8) = true := by simp; omega
  have HE2 : Hid (m = ⟨0#64, 0#64, tS k.mi k.ad, S⟩) := by unfold Hid; rw [HE.out, if_neg hz]
  clear HE hz
  go_wp2_with (first | (refine wpList_load_row (by rfl) _ _ (by rfl) _ (by rfl) 187 _ (0, 0) _ HO0.out.r underlying187 (by rfl) (bZ _) ?_) | (go_at_call 165; refine (HST.out _ _).mono ?_; rintro e w1 ⟨rfl, hb1⟩; have HB1 := hid hb1; clear hb1) | (refine aA (by rfl) _ _ _ (by rfl) (by rfl) _ _ _ (by rfl) (by rfl) (HO1.out.post HB1.out).r (aD _) (bC _ _) (aN _) ?_))
  refine ZqH (v := .tuple #[.int .u64 (0), .int .u64 (0), .agg (tpc (tS k.mi k.ad))]) (aZ results138 _ _ (w.heap.size + 1) 42 _ (0, 0) _ _ _ (by rfl) (by rfl) (by rfl) (ZqW _ _ _ _ _ _ (HO1.out.post HB1.out).r) underlying42 (by rfl) (aD _)) rfl ⟨by rw [HE2.out]; rfl, L, by rw [HE2.out]; exact (HP0.out.post HB1.out).row HO1.out.n HO1.out.ge _⟩
def wL (b : Nat) (K : Cp) (ad : BitVec 64) : Wy := ⟨b, K.c, K.a, xE K, ad, 1, false, 4, 5⟩
def wS (b : Nat) (K : Cp) (ad : BitVec 64) : Wy := ⟨b, K.c, K.a, xE K, ad, 2, false, 6, 7⟩
theorem Row.agg {w : World} {g : Nat} {cs : Array Value} {t : TypeId} (h : Row w g cs t) : ∀ j v, cs[j]? = some v → w.cell? ⟨g, 0 + j, none⟩ = some v := fun j v hv => by rw [ZqU, h.cell]; exact hv
def nores (K : Cp) : Cp := { K with rv := false, ra := 0#64, rs := 0 }
theorem NL {B : Nat} {L : Lay} {S : St} (w : World) (h : PB B L S w) (hs : Sok S) (hT : Tb w) (hB : 0 < B) (k : Cp) (ad : BitVec 64) (sz : Int) :
  Calls prog 127 #[.agg (cpc k), .pointer (some ⟨L.b, 0, none⟩), .int .u64 (n64 ad), .int .i64 sz] w fun e w' => e = .returned (.tuple #[.int .u64 (n64 (PL S (wL L.b (PR k) ad) sz none).old), .agg (tpc (PL S (wL L.b (PR k) ad) sz none).t)]) ∧ ∃ L', PSt B L w L' (PL S (wL L.b (PR k) ad) sz none).S w' := by
 obtain ⟨W0, hW0, r0, r1, b0, s0⟩ := cN w (cpc k) (tpc tN) 31 42
 have hzt := bU
 have HP0 : Hid (PSt B L w L S W0) := (PSt.refl h).post b0.out
 have hlo : ∀ g, w.heap.size ≤ g → ¬ L.own g := fun g hg e => by have := h.own_hi _ e; omega
 have HO1 : Hid (Own w L W0 (w.heap.size + 1) (tpc tN) 42) := ⟨r1.out, hlo _ (by omega), by omega⟩
 have HPR : Hid (∀ W, Calls prog 10 #[.agg (cpc k)] W fun e w' => e = .returned (.agg (cpc (PR k))) ∧ Below W.heap.size W w') := fun W => jF k W
 have HLG : Hid (∀ W, Calls prog 137 #[.agg (cpc (PR k)), .pointer (some ⟨L.b, 0, none⟩), .int .u64 (n64 ad)] W fun e w' => e = .returned (.agg (wyc (wL L.b (PR k) ad))) ∧ Below W.heap.size W w') := fun W => by
  have q := sO (PR k) L.b ad W
  rw [fR] at q
  exact q
 have HPL : Hid (∀ W, Below w.heap.size w W → Calls prog 129 #[.agg (wyc (wL L.b (PR k) ad)), .int .i64 sz, .nilFunc] W fun e w' => e = .returned (.tuple #[.int .u64 (n64 (PL S (wL L.b (PR k) ad) sz none).old), .int .u64 (n64 (PL S (wL L.b (PR k) ad) sz none).st), .agg (tpc (PL S (wL L.b (PR k) ad) sz none).t)]) ∧ ∃ L', PSt B L W L' (PL S (wL L.b (PR k) ad) sz none).S w') := fun W hb => uB W (h.later hb) hs (hT.next hb) hB (wL L.b (PR k) ad) rfl sz .nilFunc none .nil
 have HB0 : Hid (Below w.heap.size w W0) := b0
 generalize PL S (wL L.b (PR k) ad) sz none = m at HPL ⊢
 generalize wyc (wL L.b (PR k) ad) = wy at HPL HLG
 clear h hs hT s0 r1 b0
 go_enter func127, ntmps127
 go_upto_region 1 with fail
 clear hW0
 go_upto_region 2 with (first | (refine wpList_load_row (by rfl) _ _ (by rfl) _ (by rfl) 31 _ (0, 0) _ r0.out underlying31 (by rfl) (aB _) ?_) | (go_at_call 10; refine (HPR.out _).mono ?_; rintro e w1 ⟨rfl, hb1⟩; have HB1 := hid hb1; clear hb1) | (go_at_call 137; refine (HLG.out _).mono ?_; rintro e w2 ⟨rfl, hb2⟩; have HB2 : Hid (Below W0.heap.size W0 w2) := HB1.out.trans (hb2.mono HB1.out.size); clear hb2) | (go_at_call 129; refine (HPL.out w2 (HB0.out.trans (HB2.out.mono HB0.out.size))).mono ?_; rintro e w3 ⟨rfl, L1, hp3⟩; have HP3 := hid hp3; clear hp3) | (refine aK (by rfl) 42 _ _ (by rfl) (by rfl) (tpc tN) (tpc m.t) (by rfl) (by rfl) (aD _) (bC _ _) (aN _) ?_))
 refine bT (motive := fun W => Code.wp _ _ _ _ W) (Q := fun W => Own w L1 W (w.heap.size + 1) (tpc tN) 42 ∧ Own w L1 W w3.heap.size (tpc m.t) 42 ∧ PSt B L w L1 m.S W) ⟨((HO1.out.post HB2.out).bus HP3.out).post (aG _ _), Own.new ((HP0.out.post HB2.out).trans HP3.out) _ _, ((HP0.out.post HB2.out).trans HP3.out).al _⟩ ?_
 clear HO1 HP0 HB0 HB1 HB2 HP3 HPR HLG HPL r0
 generalize w3.heap.size = gt
 rintro W4 ⟨o1, o2, p4⟩
 have HO1 := hid o1
 have HP4 := hid p4
 have hlt : Hid (gt < W4.heap.size) := o2.r.lt
 have HL2 : Hid (∀ j v, (tpc m.t)[j]? = some v → W4.cell? ⟨gt, 0 + j, none⟩ = some v) := o2.r.agg
 clear o1 o2 p4
 have := aS W4
 refine aQ (x0 := bB.start W4) 3 (by kernel_rfl) (by kernel_rfl) ?_
 simp only [List.take_succ_cons, List.take_zero, List.drop_succ_cons, List.drop_zero]
 repeat (first | (refine ZqN (by rfl) fun K hK => ?_; refine bD 42 _ (by rfl) (gt) 0 (by rfl) (tpc m.t) _ hlt.out HL2.out underlying42 (by rfl) (aD _) (hK _ ?_); clear hK K; simp only [Act.put, ZqA, ZqC, ZqB]) | (go_big_quiet_step (fail)))
 refine wpQuiet_nil ?_
 rintro w' ⟨x9, rfl⟩
 have HO9 : Hid (Own w L1 x9.1 (w.heap.size + 1) (tpc tN) 42) := HO1.out.post x9.below
 go_wp2_with (refine aA (by rfl) _ _ _ (by rfl) (by rfl) _ _ _ (by rfl) (by rfl) HO9.out.r (aD _) (bC _ _) (aN _) ?_)
 refine ZqH (v := .tuple #[.int .u64 (n64 m.old), .agg (tpc m.t)]) (yL results127 _ _ (w.heap.size + 1) 42 _ (0, 0) _ _ (by rfl) (by rfl) (ZqW _ _ _ _ _ _ HO9.out.r) underlying42 (by rfl) (aD _)) rfl ⟨rfl, L1, (HP4.out.post x9.below).row HO9.out.n HO9.out.ge _⟩
theorem lZ {P : Program} {o : Oper} {a : Act} {w : World} {K : Act → World → Prop} {Q : Exit → Act → World → Prop} (t : TypeId) (x y : Operand) (ho : o.op = .store t x y)
  (g : Nat) (c c' : Array Value) (hx : a.eval x = .pointer (some ⟨g, 0, none⟩)) (hy : a.eval y = .agg c') (hg : Row w g c t) (hi : (P.info? t).map (·.size) = some c'.size) (hs : c.size = c'.size) (h1 : c'.all (·.oneCell') = true)
  (h : K (a.put o.dst undef) (w.setRow g c')) : o.wp P a w K Q := by
 unfold Oper.wp execOp
 simp only [ho, hx, hy, Instr.storeAt, Instr.sureAddr, Sem.run_bind, Sem.run_pure, Result.andThen_ok, run_storeVar_row w g t t c c' hg hi hs h1]
 exact h
theorem aF {P : Program} {md : Region.Mode} {ops : Array Oper} {Q : Exit → Act → World → Prop} {S : World → Prop} (i : Nat) (d : Option Tmp) {oi : Oper} {v : Value} {fuel : Nat} {listed : Array Bool} {a : Act} {w : World} (hi : ops[i]? = some oi) (hd : (ops[i]?).map (·.dst) = some d)
  (hs : Region.noSelect ops = true) (hf : Region.free md ops listed i = true) (hr : (Region.ready md ops listed).contains i = true) (hQ : ∀ c a w, Q (.panic c) (a.put oi.dst v) w → Q (.panic c) a w) (hy : YieldsIf P ops S oi v a) (hS : S w)
  (h : wpAnyH P md ops Q S fuel (listed.setIfInBounds i true) (a.put d v) w) : wpAnyH P md ops Q S (fuel + 1) listed a w := by
 rw [hi, Option.map_some] at hd
 injection hd with hd
 subst hd
 exact wpAnyH_take hi hs hf hr hQ hy hS h
theorem aV {P : Program} {md : Region.Mode} {ops : Array Oper} {Q : Exit → Act → World → Prop} {S : World → Prop} {fuel : Nat} {listed : Array Bool} {a : Act} {w : World} (i : Nat) (t : TypeId) (x y : Operand) (hr : Region.ready md ops listed = [i])
  (ho : (ops[i]?).map (fun o => (o.op, o.dst, o.guard)) = some (.store t x y, none, none)) (g : Nat) (c c' : Array Value) (hx : a.eval x = .pointer (some ⟨g, 0, none⟩)) (hy : a.eval y = .agg c') (hg : Row w g c t) (hi : (P.info? t).map (·.size) = some c'.size) (hs : c.size = c'.size) (h1 : c'.all (·.oneCell') = true)
  (hS : S (w.setRow g c')) (h : wpAnyH P md ops Q S fuel (listed.setIfInBounds i true) a (w.setRow g c')) : wpAnyH P md ops Q S (fuel + 1) listed a w := by
 cases e : ops[i]? with
 | none => rw [e] at ho; cases ho
 | some o =>
  rw [e] at ho
  simp only [Option.map_some, Option.some.injEq, Prod.mk.injEq] at ho
  refine wpAnyH_all hr (by simp) (fun j hj => ?_)
  obtain rfl : j = i := by simpa using hj
  refine wpOp_step e (fun K hK => ?_)
  rw [if_pos (by simp [Region.wanted, ho.2.2])]
  refine lZ t x y ho.1 g c c' hx hy hg hi hs h1 ?_
  refine hK _ _ ⟨hS, ?_⟩
  rw [ho.2.1]
  exact h
theorem bQ {P : Program} (ty : TypeId) (g : Nat) (cs : Array Value) (d : TypeDesc) (w9 : World) (h : Row w9 g cs ty) (hu : P.underlying ty = some d) (hd : (match d with | .struct _ | .array _ _ => true | _ => false) = true) (hi : (P.info? ty).map (·.size) = some cs.size) :
  ((Instr.loadAt ty (.pointer (some ⟨g, 0, none⟩))) >>= fun v => pure (Next.value v)).run P w9 = .ok (.value (.agg cs)) w9 := by
 have hl := gA (P := P) w9 ty g 0 cs d h.agg hu hd hi
 simp only [Instr.loadAt, Instr.sureAddr, Sem.run_bind, Sem.run_pure, Result.andThen_ok, hl]
theorem gO {P : Program} {o : Oper} {a : Act} (t : TypeId) (parts : Array (Nat × Operand)) (ho : o.op = .build t parts) (cells : Array Value) (hc : P.built t (parts.map fun (i, x) => (i, a.eval x)).toList = some cells) (w9 : World) : (execOp a.eval o).run P w9 = .ok (.value (.agg cells)) w9 := by
 unfold execOp
 simp only [ho, Sem.run_bind, run_build w9 t _ cells hc, Result.andThen_ok]
 rfl
end Go.Proofs.YtddlmenfcbjoaaaGreatDoor
