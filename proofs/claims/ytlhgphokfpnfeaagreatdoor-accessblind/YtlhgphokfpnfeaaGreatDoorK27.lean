import Derived.Test.YtlhgphokfpnfeaaGreatDoorK23
import Derived.Test.YtlhgphokfpnfeaaGreatDoorK26
namespace Go.Proofs.YtlhgphokfpnfeaaGreatDoor
set_option linter.unusedVariables false
open Go.ChangeShapes Go.WideShapes Go.ChangeAt Go.RowKit Go.Deep
def cM : Cp := { cz with pc := 2147483648#64, md := 3 }
def lm1 : Mv := PL (St.zero 64) (wS 0 (PR cM) 2147483648#64) 4 (some fun _ => 1048723#64)
def lm2 : Mv := PL lm1.S (wL 0 (PR cM) 2147483648#64) 4 none
def lm3 : Ft := FT lm2.S (PR cM) 0
def lm4 : Mv := PL lm3.S (wL 0 (PR cz) 2147483648#64) 4 none
theorem lm1_t : lm1.t = tN := by kernel_rfl
theorem lm2_t : lm2.t = tN := by kernel_rfl
theorem lm2_o : n64 lm2.old = 1048723 := by kernel_rfl
theorem lm3_r : lm3.raw = 1048723 := by kernel_rfl
theorem lm3_n : lm3.n = 4 := by kernel_rfl
theorem lm3_t : lm3.t = tN := by kernel_rfl
theorem lm4_t : lm4.t = tS 5 2147483648#64 := by kernel_rfl
theorem built_cM : Tryz.prog.built 31 [(2, .int .i64 3), (0, .int .u64 2147483648)] = some (cpc cM) := by kernel_rfl
theorem built_cz : Tryz.prog.built 31 [] = some (cpc cz) := by kernel_rfl
theorem zero64_ok : Sok (St.zero 64) := by
  refine ⟨St.zero_ok rfl, ?_⟩
  have hr : AllB (St.zero 64).ram := fun x hx => by
    have q : x = 0 := by simp [St.zero] at hx; exact hx
    subst q; decide
  exact ⟨hr, fun x hx => (by simp [St.zero] at hx), fun x hx => (by simp [St.zero] at hx), by decide, by decide, by decide, by decide, by decide, by decide, by decide, by decide, by decide⟩
theorem FT_ok {S : St} {K : Cp} {b : Nat} (hs : Sok S) : Sok (FT S K b).S := by
  unfold FT FT2
  repeat' split
  all_goals first | exact MV_ok hs | exact MV_ok (MV_ok hs)
theorem AM_ok {S : St} {K : Cp} {b : Nat} {op : Int} {ad v : BitVec 64} (hs : Sok S) : Sok (AM S K b op ad v).S := by
  unfold AM
  split
  · exact hs
  · exact AT_ok hs
theorem two_new (w : World) (c1 c2 : Array Value) (t1 t2 : TypeId) : Row ((w.alloc (.cells c1 t1)).alloc (.cells c2 t2)) w.heap.size c1 t1 ∧ Row ((w.alloc (.cells c1 t1)).alloc (.cells c2 t2)) (w.heap.size + 1) c2 t2 :=
  ⟨(Row.new w c1 t1).old (by simp) _, by have q := Row.new (w.alloc (.cells c1 t1)) c2 t2; simpa using q⟩
theorem own_two {B : Nat} {L L1 : Lay} {w1 w5 : World} {S1 : St} (hp : PSt B L w1 L1 S1 w5) (K1 : Cp) (t : Tp) :
    Own w1 L1 ((((w5.alloc (.cells (cpc cz) 31)).alloc (.cells (tpc tN) 48)).setRow w5.heap.size (cpc K1)).setRow (w5.heap.size + 1) (tpc t)) (w5.heap.size + 1) (tpc t) 48 ∧ PSt B L w1 L1 S1 ((((w5.alloc (.cells (cpc cz) 31)).alloc (.cells (tpc tN) 48)).setRow w5.heap.size (cpc K1)).setRow (w5.heap.size + 1) (tpc t)) ∧ (∀ g cs ty, Own w1 L1 w5 g cs ty → Own w1 L1 ((((w5.alloc (.cells (cpc cz) 31)).alloc (.cells (tpc tN) 48)).setRow w5.heap.size (cpc K1)).setRow (w5.heap.size + 1) (tpc t)) g cs ty) := by
  have o1 := Own.new hp (cpc cz) 31
  have o2 := Own.new (hp.al (.cells (cpc cz) 31)) (tpc tN) 48
  rw [show (w5.alloc (.cells (cpc cz) 31)).heap.size = w5.heap.size + 1 by simp] at o2
  have p1 := ((hp.al (.cells (cpc cz) 31)).al (.cells (tpc tN) 48)).row o1.n o1.ge (cpc K1)
  have p2 := p1.row o2.n o2.ge (tpc t)
  refine ⟨⟨setRow_heap _ _ _ _ _ _ ((setRow_other _ _ _ _ (by omega)).trans o2.r), o2.n, o2.ge⟩, p2, fun g cs ty h => ⟨?_, h.n, h.ge⟩⟩
  have hl := h.r.lt
  exact (setRow_other _ _ _ _ (by omega)).trans ((setRow_other _ _ _ _ (by omega)).trans ((h.post (below_al _ _)).post (below_al _ _)).r)
set_option maxRecDepth 100000 in
set_option maxHeartbeats 8000000 in
theorem live_c (w : World) (hT : Tb w) : Calls Tryz.prog 9 #[] w fun e w' => e = .returned (.bool true) ∧ Below w.heap.size w w' := by
  have HNW : Hid (Calls Tryz.prog 23 #[.int .i64 64] w fun e w' => ∃ L, e = .returned (.tuple #[.pointer (some ⟨L.b, 0, none⟩), .int .i64 0]) ∧ PB w.heap.size L (St.zero 64) w' ∧ Below w.heap.size w w') := new_c 64 w rfl
  have HT0 : Hid (Tb w) := hT
  have hzc := zero_cpu
  have hzt := zero_trap
  clear hT
  go_enter Tryz.func9, Tryz.ntmps9
  go_upto_region 5 with (first | (go_at_call 23; refine HNW.out.mono ?_; rintro e w1 ⟨L, rfl, hp1, hb1⟩; have HP1 : Hid (PB w.heap.size L (St.zero 64) w1) := hp1; have HB1 : Hid (Below w.heap.size w w1) := hb1; clear hp1 hb1) | (refine wpList_build_tab (by rfl) 31 _ (by rfl) (cpc cM) built_cM ?_) | (refine wpList_store_new (by rfl) 31 _ _ (by rfl) (by rfl) (cpc cz) (cpc cM) (by rfl) (by rfl) (info_cpu _) (by rw [cpc_size, cpc_size]) (cpc_ones _) ?_))
  have HT1 : Hid (∀ L1 S1 W, PSt w.heap.size L w1 L1 S1 W → Tb W) := fun L1 S1 W hp => hp.tb (hT := HT0.out.next HB1.out) (hB := HT0.out.lt) (h := HP1.out)
  have HST : Hid (∀ W, PSt w.heap.size L w1 L (St.zero 64) W → Calls Tryz.prog 24 #[.agg (cpc cM), .pointer (some ⟨L.b, 0, none⟩), .int .u64 2147483648, .int .i64 4, .int .u64 1048723] W fun e w' => (∃ K1, e = .returned (.tuple #[.agg (cpc K1), .agg (tpc tN)])) ∧ ∃ L', PSt w.heap.size L W L' lm1.S w') := fun W hp => by
    have q := aStore_c W hp.p zero64_ok (HT1.out _ _ _ hp) HT0.out.lt cM 2147483648#64 4 1048723#64
    rw [PL_wS] at q
    exact q.mono fun e w' q => ⟨⟨_, by rw [← lm1_t]; exact q.1⟩, q.2⟩
  have HLD : Hid (∀ L1 W, PSt w.heap.size L w1 L1 lm1.S W → Calls Tryz.prog 25 #[.agg (cpc cM), .pointer (some ⟨L.b, 0, none⟩), .int .u64 2147483648, .int .i64 4] W fun e w' => e = .returned (.tuple #[.int .u64 1048723, .agg (tpc tN)]) ∧ ∃ L', PSt w.heap.size L1 W L' lm2.S w') := fun L1 W hp => by
    have q := aLoad_c W hp.p (PL_ok zero64_ok) (HT1.out _ _ _ hp) HT0.out.lt cM 2147483648#64 4
    rw [hp.b.1, PL_wL] at q
    exact q.mono fun e w' q => ⟨by rw [← lm2_t, ← lm2_o]; exact q.1, q.2⟩
  have HFE : Hid (∀ L1 W, PSt w.heap.size L w1 L1 lm2.S W → Calls Tryz.prog 26 #[.agg (cpc cM), .pointer (some ⟨L.b, 0, none⟩)] W fun e w' => e = .returned (.tuple #[.int .u32 1048723, .int .i64 4, .agg (tpc tN)]) ∧ ∃ L', PSt w.heap.size L1 W L' lm3.S w') := fun L1 W hp => by
    have q := aFetch_c W hp.p (PL_ok (PL_ok zero64_ok)) (HT1.out _ _ _ hp) HT0.out.lt cM
    rw [hp.b.1, FT_b] at q
    exact q.mono fun e w' q => ⟨by rw [← lm3_t, ← lm3_r, ← lm3_n]; exact q.1, q.2⟩
  have HL4 : Hid (∀ L1 W, PSt w.heap.size L w1 L1 lm3.S W → Calls Tryz.prog 25 #[.agg (cpc cz), .pointer (some ⟨L.b, 0, none⟩), .int .u64 2147483648, .int .i64 4] W fun e w' => ∃ o4, e = .returned (.tuple #[.int .u64 o4, .agg (tpc (tS 5 2147483648#64))]) ∧ ∃ L', PSt w.heap.size L1 W L' lm4.S w') := fun L1 W hp => by
    have q := aLoad_c W hp.p (FT_ok (PL_ok (PL_ok zero64_ok))) (HT1.out _ _ _ hp) HT0.out.lt cz 2147483648#64 4
    rw [hp.b.1, PL_wL] at q
    exact q.mono fun e w' q => ⟨_, by rw [← lm4_t]; exact q.1, q.2⟩
  have HBW : Hid (∀ L1 S1 W, PSt w.heap.size L w1 L1 S1 W → Below w.heap.size w W) := fun L1 S1 W hp => HB1.out.trans (hp.x.below HB1.out.size (fun k hk => HP1.out.own_lo k hk))
  generalize St.zero 64 = S0 at HP1 HST
  generalize lm1.S = S1 at HST HLD
  generalize lm2.S = S2 at HLD HFE
  generalize lm3.S = S3 at HFE HL4
  generalize lm4.S = S4 at HL4
  have HP4 : Hid (PSt w.heap.size L w1 L S0 (w1.alloc (.cells (cpc cM) 31))) := (PSt.refl HP1.out).al _
  have HO3 : Hid (Own w1 L (w1.alloc (.cells (cpc cM) 31)) (w1.heap.size) (cpc cM) 31) := Own.new (PSt.refl HP1.out) _ _
  generalize w1.alloc (.cells (cpc cM) 31) = W4 at HP4 HO3 ⊢
  generalize w1.heap.size = g3 at HO3 ⊢
  clear HNW HT0 HT1 HP1 HB1
  go_upto_region 6 with (first | (refine wpList_load_row (by rfl) _ _ (by rfl) _ (by rfl) 31 _ (0, 0) _ HO3.out.r Tryz.underlying31 (by rfl) (info_cpu _) ?_) | (go_at_call 24; refine (HST.out _ HP4.out).mono ?_; rintro e w5 ⟨⟨K1, rfl⟩, L1, hp5⟩; have HP5 : Hid (PSt w.heap.size L W4 L1 S1 w5) := hp5; clear hp5) | (refine wpList_store_row (by rfl) _ _ _ (by rfl) (by rfl) _ _ _ (by rfl) (by rfl) (two_new _ _ _ _ _).1 (info_cpu _) (by rw [cpc_size, cpc_size]) (cpc_ones _) ?_) | (refine wpList_store_row (by rfl) _ _ _ (by rfl) (by rfl) _ _ _ (by rfl) (by rfl) ((setRow_other _ _ _ _ (by omega)).trans (two_new _ _ _ _ _).2) (info_trap _) (tpc_sz _ _) (tpc_ones _) ?_))
  refine on_P (motive := fun W => Code.wp _ _ _ _ W) (Q := fun W => Own w1 L1 W (g3) (cpc cM) 31 ∧ Own w1 L1 W (w5.heap.size + 1) (tpc tN) 48 ∧ PSt w.heap.size L w1 L1 S1 W) ⟨(own_two (HP4.out.trans HP5.out) K1 tN).2.2 _ _ _ (HO3.out.bus HP5.out), (own_two (HP4.out.trans HP5.out) K1 tN).1, (own_two (HP4.out.trans HP5.out) K1 tN).2.1⟩ ?_
  clear HO3 HP4 HP5 HST
  generalize w5.heap.size + 1 = g5
  rintro W6 ⟨q0, q1, q2⟩
  have HO3 : Hid (Own w1 L1 W6 (g3) (cpc cM) 31) := q0
  have HTg5 : Hid (Own w1 L1 W6 (g5) (tpc tN) 48) := q1
  have HPx : Hid (PSt w.heap.size L w1 L1 S1 W6) := q2
  clear q0 q1 q2
  go_upto_region 7 with (first | (refine wpList_load_row (by rfl) _ _ (by rfl) _ (by rfl) 31 _ (0, 0) _ HO3.out.r Tryz.underlying31 (by rfl) (info_cpu _) ?_) | (go_at_call 25; refine (HLD.out L1 _ HPx.out).mono ?_; rintro e w5 ⟨rfl, L2, hp5⟩; have HP5 : Hid (PSt w.heap.size L1 W6 L2 S2 w5) := hp5; clear hp5) | (refine wpList_store_new (by rfl) 48 _ _ (by rfl) (by rfl) (tpc tN) (tpc tN) (by rfl) (by rfl) (info_trap _) (tpc_sz _ _) (tpc_ones _) ?_))
  refine on_P (motive := fun W => Code.wp _ _ _ _ W) (Q := fun W => Own w1 L2 W (g3) (cpc cM) 31 ∧ Own w1 L2 W (g5) (tpc tN) 48 ∧ Own w1 L2 W (w5.heap.size) (tpc tN) 48 ∧ PSt w.heap.size L w1 L2 S2 W) ⟨(HO3.out.bus HP5.out).post (below_al _ _), (HTg5.out.bus HP5.out).post (below_al _ _), Own.new (HPx.out.trans HP5.out) _ _, (HPx.out.trans HP5.out).al _⟩ ?_
  clear HO3 HTg5 HPx HP5 HLD
  generalize w5.heap.size = g7
  rintro W7 ⟨q0, q1, qn, qp⟩
  have HO3 : Hid (Own w1 L2 W7 (g3) (cpc cM) 31) := q0
  have HTg5 : Hid (Own w1 L2 W7 (g5) (tpc tN) 48) := q1
  have HTg7 : Hid (Own w1 L2 W7 (g7) (tpc tN) 48) := qn
  have HPx : Hid (PSt w.heap.size L w1 L2 S2 W7) := qp
  clear q0 q1 qn qp
  go_upto_region 8 with (first | (refine wpList_load_row (by rfl) _ _ (by rfl) _ (by rfl) 31 _ (0, 0) _ HO3.out.r Tryz.underlying31 (by rfl) (info_cpu _) ?_) | (go_at_call 26; refine (HFE.out L2 _ HPx.out).mono ?_; rintro e w5 ⟨rfl, L3, hp5⟩; have HP5 : Hid (PSt w.heap.size L2 W7 L3 S3 w5) := hp5; clear hp5) | (refine wpList_store_new (by rfl) 48 _ _ (by rfl) (by rfl) (tpc tN) (tpc tN) (by rfl) (by rfl) (info_trap _) (tpc_sz _ _) (tpc_ones _) ?_))
  refine on_P (motive := fun W => Code.wp _ _ _ _ W) (Q := fun W => Own w1 L3 W (g3) (cpc cM) 31 ∧ Own w1 L3 W (g5) (tpc tN) 48 ∧ Own w1 L3 W (g7) (tpc tN) 48 ∧ Own w1 L3 W (w5.heap.size) (tpc tN) 48 ∧ PSt w.heap.size L w1 L3 S3 W) ⟨(HO3.out.bus HP5.out).post (below_al _ _), (HTg5.out.bus HP5.out).post (below_al _ _), (HTg7.out.bus HP5.out).post (below_al _ _), Own.new (HPx.out.trans HP5.out) _ _, (HPx.out.trans HP5.out).al _⟩ ?_
  clear HO3 HTg5 HTg7 HPx HP5 HFE
  generalize w5.heap.size = g10
  rintro W8 ⟨q0, q1, q2, qn, qp⟩
  have HO3 : Hid (Own w1 L3 W8 (g3) (cpc cM) 31) := q0
  have HTg5 : Hid (Own w1 L3 W8 (g5) (tpc tN) 48) := q1
  have HTg7 : Hid (Own w1 L3 W8 (g7) (tpc tN) 48) := q2
  have HTg10 : Hid (Own w1 L3 W8 (g10) (tpc tN) 48) := qn
  have HPx : Hid (PSt w.heap.size L w1 L3 S3 W8) := qp
  clear q0 q1 q2 qn qp
  go_upto_region 9 with (first | (refine wpList_load_row (by rfl) _ _ (by rfl) _ (by rfl) 31 _ (0, 0) _ HO3.out.r Tryz.underlying31 (by rfl) (info_cpu _) ?_) | (refine wpList_build_tab (by rfl) 31 _ (by rfl) (cpc cz) built_cz ?_) | (go_at_call 25; refine (HL4.out L3 _ HPx.out).mono ?_; rintro e w5 ⟨o4, rfl, L4, hp5⟩; have HP5 : Hid (PSt w.heap.size L3 W8 L4 S4 w5) := hp5; clear hp5) | (refine wpList_store_new (by rfl) 48 _ _ (by rfl) (by rfl) (tpc tN) (tpc (tS 5 2147483648#64)) (by rfl) (by rfl) (info_trap _) (tpc_sz _ _) (tpc_ones _) ?_))
  refine on_P (motive := fun W => Code.wp _ _ _ _ W) (Q := fun W => Own w1 L4 W (g3) (cpc cM) 31 ∧ Own w1 L4 W (g5) (tpc tN) 48 ∧ Own w1 L4 W (g7) (tpc tN) 48 ∧ Own w1 L4 W (g10) (tpc tN) 48 ∧ Own w1 L4 W (w5.heap.size) (tpc (tS 5 2147483648#64)) 48 ∧ PSt w.heap.size L w1 L4 S4 W) ⟨(HO3.out.bus HP5.out).post (below_al _ _), (HTg5.out.bus HP5.out).post (below_al _ _), (HTg7.out.bus HP5.out).post (below_al _ _), (HTg10.out.bus HP5.out).post (below_al _ _), Own.new (HPx.out.trans HP5.out) _ _, (HPx.out.trans HP5.out).al _⟩ ?_
  clear HO3 HTg5 HTg7 HTg10 HPx HP5 HL4
  generalize w5.heap.size = g12
  rintro W9 ⟨q0, q1, q2, q3, qn, qp⟩
  have HO3 : Hid (Own w1 L4 W9 (g3) (cpc cM) 31) := q0
  have HTg5 : Hid (Own w1 L4 W9 (g5) (tpc tN) 48) := q1
  have HTg7 : Hid (Own w1 L4 W9 (g7) (tpc tN) 48) := q2
  have HTg10 : Hid (Own w1 L4 W9 (g10) (tpc tN) 48) := q3
  have HTg12 : Hid (Own w1 L4 W9 (g12) (tpc (tS 5 2147483648#64)) 48) := qn
  have HPx : Hid (PSt w.heap.size L w1 L4 S4 W9) := qp
  clear q0 q1 q2 q3 qn qp
  have c5 : W9.cell? ⟨g5, 0, none⟩ = some (.bool false) := HTg5.out.r.cell 0
  have c7 : W9.cell? ⟨g7, 0, none⟩ = some (.bool false) := HTg7.out.r.cell 0
  have c10 : W9.cell? ⟨g10, 0, none⟩ = some (.bool false) := HTg10.out.r.cell 0
  have d0 : W9.cell? ⟨g12, 0, none⟩ = some (.bool true) := HTg12.out.r.cell 0
  have d1 : W9.cell? ⟨g12, 1, none⟩ = some (.int .u64 5) := HTg12.out.r.cell 1
  have d2 : W9.cell? ⟨g12, 2, none⟩ = some (.int .u64 2147483648) := HTg12.out.r.cell 2
  go_wp2
  go_ret
  exact ⟨rfl, HBW.out _ _ _ HPx.out⟩
end Go.Proofs.YtlhgphokfpnfeaaGreatDoor
