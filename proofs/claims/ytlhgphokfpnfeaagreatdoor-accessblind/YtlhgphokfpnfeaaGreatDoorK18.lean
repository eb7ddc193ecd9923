import Derived.Test.YtlhgphokfpnfeaaGreatDoorK17
namespace Go.Proofs.YtlhgphokfpnfeaaGreatDoor
set_option linter.unusedVariables false
open Go.ChangeShapes Go.WideShapes Go.ChangeAt Go.RowKit Go.Deep
theorem zero_res (w : World) : (zeroValue 29).run Tryz.prog w = .ok (.agg (rsc false 0#64 0)) w := by kernel_rfl
theorem rsc_sz (v v' : Bool) (a a' : BitVec 64) (s s' : Int) : (rsc v a s).size = (rsc v' a' s').size := rfl
/-- Has a store met a reservation? -/
def bh (a ad : BitVec 64) (s sz : Int) : Bool := decide (n64 (ad - a) < IntKind.u64.wrap s) || decide (n64 (a - ad) < IntKind.u64.wrap sz)
/-- A Cpu behind a store. -/
def bhK (K : Cp) (ad : BitVec 64) (sz : Int) : Cp := if bh K.ra ad K.rs sz = true then nores K else K
set_option maxRecDepth 100000 in
set_option maxHeartbeats 2000000 in
theorem behind_c (K : Cp) (ad : BitVec 64) (sz : Int) (w : World) : Calls Tryz.prog 49 #[.agg (rsc K.rv K.ra K.rs), .int .u64 (n64 ad), .int .i64 sz] w fun e w' => e = .returned (.agg (rsc (bhK K ad sz).rv (bhK K ad sz).ra (bhK K ad sz).rs)) ∧ Below w.heap.size w w' := by
  obtain ⟨W0, hW0, r0, r1, b0, s0⟩ := start2 w (rsc K.rv K.ra K.rs) (rsc false 0#64 0) 29 29
  have hz := zero_res
  have c1 : W0.cell? ⟨w.heap.size, 1, none⟩ = some (.int .u64 (n64 K.ra)) := r0.out.cell 1
  have c2 : W0.cell? ⟨w.heap.size, 2, none⟩ = some (.int .i64 K.rs) := r0.out.cell 2
  have e1 := n64_sub ad K.ra
  have e2 := n64_sub K.ra ad
  have HT : Hid (bh K.ra ad K.rs sz = true → bhK K ad sz = nores K) := fun q => by unfold bhK; rw [if_pos q]
  have HF : Hid (bh K.ra ad K.rs sz = false → bhK K ad sz = K) := fun q => by unfold bhK; rw [q, if_neg (by decide)]
  have HBT : Hid (bh K.ra ad K.rs sz = (decide (n64 (ad - K.ra) < IntKind.u64.wrap K.rs) || decide (n64 (K.ra - ad) < IntKind.u64.wrap sz))) := rfl
  obtain ⟨Kb, hKb⟩ : ∃ Kb, Kb = bhK K ad sz := ⟨_, rfl⟩
  rw [← hKb] at HT HF ⊢
  generalize bh K.ra ad K.rs sz = b at HT HF HBT
  generalize n64 (ad - K.ra) = d1 at e1 HBT
  generalize n64 (K.ra - ad) = d2 at e2 HBT
  clear s0 hKb
  go_enter Tryz.func49, Tryz.ntmps49
  go_upto_region 1 with fail
  clear hW0
  by_cases h1 : d1 < IntKind.u64.wrap K.rs
  · have hb := HT.out (by rw [HBT.out, decide_eq_true h1]; rfl)
    subst hb
    clear HT HF HBT
    go_wp2_with (first | (refine wpList_build_tab (by rfl) 29 _ (by rfl) (rsc false 0#64 0) (by kernel_rfl) ?_) | (refine wpList_store_row (by rfl) _ _ _ (by rfl) (by rfl) _ _ _ (by rfl) (by rfl) r1.out (info_res _ _ _) (rsc_sz _ _ _ _ _ _) (rsc_ones _ _ _) ?_))
    refine bodyPost_ret (v := .agg (rsc false 0#64 0)) (results_cell_row Tryz.results49 _ _ (w.heap.size + 1) 29 _ (0, 0) _ (by rfl) (setRow_heap _ _ _ _ _ _ r1.out) Tryz.underlying29 (by rfl) (info_res _ _ _)) rfl ⟨rfl, below_row b0.out (by omega) _⟩
  · by_cases h2 : d2 < IntKind.u64.wrap sz
    · have hb := HT.out (by rw [HBT.out, decide_eq_true h2, Bool.or_true])
      subst hb
      clear HT HF HBT
      go_wp2_with (first | (refine wpList_build_tab (by rfl) 29 _ (by rfl) (rsc false 0#64 0) (by kernel_rfl) ?_) | (refine wpList_store_row (by rfl) _ _ _ (by rfl) (by rfl) _ _ _ (by rfl) (by rfl) r1.out (info_res _ _ _) (rsc_sz _ _ _ _ _ _) (rsc_ones _ _ _) ?_))
      refine bodyPost_ret (v := .agg (rsc false 0#64 0)) (results_cell_row Tryz.results49 _ _ (w.heap.size + 1) 29 _ (0, 0) _ (by rfl) (setRow_heap _ _ _ _ _ _ r1.out) Tryz.underlying29 (by rfl) (info_res _ _ _)) rfl ⟨rfl, below_row b0.out (by omega) _⟩
    · have hb := HF.out (by rw [HBT.out, decide_eq_false h1, decide_eq_false h2]; rfl)
      subst hb
      clear HT HF HBT
      go_wp2_with (first | (refine wpList_load_row (by rfl) _ _ (by rfl) _ (by rfl) 29 _ (0, 0) _ r0.out Tryz.underlying29 (by rfl) (info_res _ _ _) ?_) | (refine wpList_store_row (by rfl) _ _ _ (by rfl) (by rfl) _ _ _ (by rfl) (by rfl) r1.out (info_res _ _ _) (rsc_sz _ _ _ _ _ _) (rsc_ones _ _ _) ?_))
      refine bodyPost_ret (v := .agg (rsc Kb.rv Kb.ra Kb.rs)) (results_cell_row Tryz.results49 _ _ (w.heap.size + 1) 29 _ (0, 0) _ (by rfl) (setRow_heap _ _ _ _ _ _ r1.out) Tryz.underlying29 (by rfl) (info_res _ _ _)) rfl ⟨rfl, below_row b0.out (by omega) _⟩
theorem bhK_res (K : Cp) (ad : BitVec 64) (sz : Int) : { K with rv := (bhK K ad sz).rv, ra := (bhK K ad sz).ra, rs := (bhK K ad sz).rs } = bhK K ad sz := by
  unfold bhK
  split
  · rfl
  · rfl
theorem PSt.lay {B : Nat} {L L1 : Lay} {S1 : St} {w : World} {g : Nat} (hn : ¬ L1.own g) (hg : w.heap.size ≤ g) : ∀ (l : List Value) (o : Nat) {W : World}, PSt B L w L1 S1 W → PSt B L w L1 S1 (W.setCells g o l)
  | [], _, _, h => h
  | v :: r, o, _, h => by rw [World.setCells]; exact PSt.lay hn hg r (o + 1) (h.put hn hg o v)
/-- What a Store leaves of the Cpu. -/
def stK (K : Cp) (m : Mv) (ad : BitVec 64) (sz : Int) : Cp := if m.t.is = true then K else bhK K ad sz
theorem mde_always {B : Nat} {L : Lay} {S : St} {w : World} (h : PB B L S w) (v : BitVec 64) (g : Nat) (hg : w.heap[g]? = some (.cells #[.int .u64 (n64 v)] 22 (0, 0))) (hn : ¬ L.own g) : Mde B L w (.func (.func 75) #[] #[.pointer (some ⟨g, 0, none⟩)]) (some fun _ => v) :=
  .one _ _ _ (fun x W => by kernel_rfl) (fun L1 S1 W hp x => by
    have hr : Row W g #[.int .u64 (n64 v)] 22 := (hp.x.block g (Row.lt hg) hn).trans hg
    exact (always1_c (.int .u64 (n64 v)) (n64 x) g W (hr.cell 0)).mono fun e w' q => ⟨q.1, by rw [q.2]; exact Below.refl _ _⟩)
set_option maxRecDepth 100000 in
set_option maxHeartbeats 4000000 in
theorem aStore_c {B : Nat} {L : Lay} {S : St} (w : World) (h : PB B L S w) (hs : Sok S) (hT : Tb w) (hB : 0 < B) (k : Cp) (ad : BitVec 64) (sz : Int) (v : BitVec 64) :
    Calls Tryz.prog 24 #[.agg (cpc k), .pointer (some ⟨L.b, 0, none⟩), .int .u64 (n64 ad), .int .i64 sz, .int .u64 (n64 v)] w fun e w' => e = .returned (.tuple #[.agg (cpc (stK (PR k) (PL S (wS L.b (PR k) ad) sz (some fun _ => v)) ad sz)), .agg (tpc (PL S (wS L.b (PR k) ad) sz (some fun _ => v)).t)]) ∧ ∃ L', PSt B L w L' (PL S (wS L.b (PR k) ad) sz (some fun _ => v)).S w' := by
  obtain ⟨W0, hW0, r0, r1, r2, b0, s0⟩ := start3 w (cpc k) (cpc cz) (tpc tN) 31 31 48
  clear s0
  have hzt := zero_trap
  have hzc := zero_cpu
  have HP0 : Hid (PSt B L w L S W0) := (PSt.refl h).post b0
  have hlo : ∀ g, w.heap.size ≤ g → ¬ L.own g := fun g hg e => by have := h.own_hi _ e; omega
  have HO0 : Hid (Own w L W0 w.heap.size (cpc k) 31) := ⟨r0, hlo _ (by omega), by omega⟩
  have HO1 : Hid (Own w L W0 (w.heap.size + 1) (cpc cz) 31) := ⟨r1, hlo _ (by omega), by omega⟩
  have HO2 : Hid (Own w L W0 (w.heap.size + 2) (tpc tN) 48) := ⟨r2, hlo _ (by omega), by omega⟩
  have HPR : Hid (∀ W, Calls Tryz.prog 45 #[.agg (cpc k)] W fun e w' => e = .returned (.agg (cpc (PR k))) ∧ Below W.heap.size W w') := fun W => Pr_c k W
  have HB0 : Hid (Below w.heap.size w W0) := b0
  have HLG : Hid (∀ W, Calls Tryz.prog 46 #[.agg (cpc (PR k)), .pointer (some ⟨L.b, 0, none⟩), .int .u64 (n64 ad)] W fun e w' => e = .returned (.agg (wyc (wS L.b (PR k) ad))) ∧ Below W.heap.size W w') := fun W => by
    have q := storing_c (PR k) L.b ad W
    rw [PR_PR] at q
    exact q
  have HPL : Hid (∀ W g, Below w.heap.size w W → W.heap[g]? = some (.cells #[.int .u64 (n64 v)] 22 (0, 0)) → w.heap.size ≤ g → Calls Tryz.prog 47 #[.agg (wyc (wS L.b (PR k) ad)), .int .i64 sz, .func (.func 75) #[] #[.pointer (some ⟨g, 0, none⟩)]] W fun e w' => e = .returned (.tuple #[.int .u64 (n64 (PL S (wS L.b (PR k) ad) sz (some fun _ => v)).old), .int .u64 (n64 (PL S (wS L.b (PR k) ad) sz (some fun _ => v)).st), .agg (tpc (PL S (wS L.b (PR k) ad) sz (some fun _ => v)).t)]) ∧ ∃ L', PSt B L W L' (PL S (wS L.b (PR k) ad) sz (some fun _ => v)).S w') := fun W g hb hg hw => plain_c W (h.later hb) hs (hT.next hb) hB (wS L.b (PR k) ad) rfl sz _ _ (mde_always (h.later hb) v g hg (hlo g hw))
  have HAL : Hid (∀ W, Calls Tryz.prog 48 #[.int .u64 (n64 v)] W fun e w' => e = .returned (.func (.func 75) #[] #[.pointer (some ⟨W.heap.size, 0, none⟩)]) ∧ w' = W.alloc (.cells #[.int .u64 (n64 v)] 22)) := fun W => always_c v W
  generalize PL S (wS L.b (PR k) ad) sz (some fun _ => v) = m at HPL ⊢
  generalize wyc (wS L.b (PR k) ad) = wy at HPL HLG
  generalize PR k = K at HPR HLG ⊢
  have HBH : Hid (∀ W, Calls Tryz.prog 49 #[.agg (rsc K.rv K.ra K.rs), .int .u64 (n64 ad), .int .i64 sz] W fun e w' => e = .returned (.agg (rsc (bhK K ad sz).rv (bhK K ad sz).ra (bhK K ad sz).rs)) ∧ Below W.heap.size W w') := fun W => behind_c K ad sz W
  have HSK : Hid (stK K m ad sz = if m.t.is = true then K else bhK K ad sz) := rfl
  obtain ⟨K2, hK2⟩ : ∃ K2, K2 = stK K m ad sz := ⟨_, rfl⟩
  rw [← hK2] at HSK ⊢
  clear hK2 h hs hT r0 r1 r2 b0
  go_enter Tryz.func24, Tryz.ntmps24
  go_upto_region 1 with fail
  clear hW0
  go_upto_region 2 with (first | (refine wpList_load_row (by rfl) _ _ (by rfl) _ (by rfl) 31 _ (0, 0) _ HO0.out.r Tryz.underlying31 (by rfl) (info_cpu _) ?_) | (go_at_call 45; refine (HPR.out _).mono ?_; rintro e w1 ⟨rfl, hb1⟩; have HB1 : Hid (Below W0.heap.size W0 w1) := hb1; clear hb1) | (refine wpList_store_row (by rfl) _ _ _ (by rfl) (by rfl) _ _ _ (by rfl) (by rfl) (HO0.out.post HB1.out).r (info_cpu _) (by rw [cpc_size, cpc_size]) (cpc_ones _) ?_))
  refine on_P (motive := fun W => Code.wp _ _ _ _ W) (Q := fun W => Own w L W w.heap.size (cpc K) 31 ∧ Own w L W (w.heap.size + 1) (cpc cz) 31 ∧ Own w L W (w.heap.size + 2) (tpc tN) 48 ∧ PSt B L w L S W ∧ Below w.heap.size w W)
    ⟨⟨setRow_heap _ _ _ _ _ _ (HO0.out.post HB1.out).r, HO0.out.n, HO0.out.ge⟩, ⟨(setRow_other _ _ _ _ (by omega)).trans (HO1.out.post HB1.out).r, HO1.out.n, HO1.out.ge⟩, ⟨(setRow_other _ _ _ _ (by omega)).trans (HO2.out.post HB1.out).r, HO2.out.n, HO2.out.ge⟩, (HP0.out.post HB1.out).row HO0.out.n HO0.out.ge _, below_row (HB0.out.trans (HB1.out.mono HB0.out.size)) (Nat.le_refl _) _⟩ ?_
  clear HO0 HO1 HO2 HP0 HB0 HB1 HPR
  rintro W2 ⟨o0, o1, o2, p2, b2⟩
  have HO0 : Hid (Own w L W2 w.heap.size (cpc K) 31) := o0
  have HO1 : Hid (Own w L W2 (w.heap.size + 1) (cpc cz) 31) := o1
  have HO2 : Hid (Own w L W2 (w.heap.size + 2) (tpc tN) 48) := o2
  have HP2 : Hid (PSt B L w L S W2) := p2
  have HB2 : Hid (Below w.heap.size w W2) := b2
  clear o0 o1 o2 p2 b2
  go_upto_region 3 with (first | (refine wpList_load_row (by rfl) _ _ (by rfl) _ (by rfl) 31 _ (0, 0) _ HO0.out.r Tryz.underlying31 (by rfl) (info_cpu _) ?_) | (go_at_call 46; refine (HLG.out _).mono ?_; rintro e w3 ⟨rfl, hb3⟩; have HB3 : Hid (Below W2.heap.size W2 w3) := hb3; clear hb3) | (go_at_call 48; refine (HAL.out _).mono ?_; rintro e w4 ⟨rfl, hw4⟩; have HW4 : Hid (w4 = w3.alloc (.cells #[.int .u64 (n64 v)] 22)) := hw4; have HB4 : Hid (Below W2.heap.size W2 w4) := (by unfold Hid; rw [hw4]; exact HB3.out.trans ((below_al _ _).mono HB3.out.size)); clear hw4) | (go_at_call 47; refine (HPL.out w4 w3.heap.size (HB2.out.trans (HB4.out.mono HB2.out.size)) (by rw [HW4.out]; exact heap_alloc_new w3 _) (Nat.le_trans HB2.out.size HB3.out.size)).mono ?_; rintro e w5 ⟨rfl, L1, hp5⟩; have HP5 : Hid (PSt B L w4 L1 m.S w5) := hp5; clear hp5) | (refine wpList_store_new (by rfl) 48 _ _ (by rfl) (by rfl) (tpc tN) (tpc m.t) (by rfl) (by rfl) (info_trap _) (tpc_sz _ _) (tpc_ones _) ?_))
  refine on_P (motive := fun W => Code.wp _ _ _ _ W) (Q := fun W => Own w L1 W w.heap.size (cpc K) 31 ∧ Own w L1 W (w.heap.size + 1) (cpc cz) 31 ∧ Own w L1 W (w.heap.size + 2) (tpc tN) 48 ∧ Own w L1 W w5.heap.size (tpc m.t) 48 ∧ PSt B L w L1 m.S W) ⟨((HO0.out.post HB4.out).bus HP5.out).post (below_al _ _), ((HO1.out.post HB4.out).bus HP5.out).post (below_al _ _), ((HO2.out.post HB4.out).bus HP5.out).post (below_al _ _), Own.new ((HP2.out.post HB4.out).trans HP5.out) _ _, ((HP2.out.post HB4.out).trans HP5.out).al _⟩ ?_
  clear HP2 HB2 HB3 HW4 HLG HPL HAL
  have HGT : Hid (w.heap.size + 2 < w5.heap.size) := by have := HP5.out.x.size; have := HB4.out.size; have := HO2.out.r.lt; unfold Hid; omega
  clear HP5 HB4
  generalize w5.heap.size = gt at HGT ⊢
  clear HO0 HO1 HO2
  rintro W6 ⟨o0, o1, o2, o3, p4⟩
  have HO0 : Hid (Own w L1 W6 w.heap.size (cpc K) 31) := o0
  have HO1 : Hid (Own w L1 W6 (w.heap.size + 1) (cpc cz) 31) := o1
  have HO2 : Hid (Own w L1 W6 (w.heap.size + 2) (tpc tN) 48) := o2
  have HO3 : Hid (Own w L1 W6 gt (tpc m.t) 48) := o3
  have HP4 : Hid (PSt B L w L1 m.S W6) := p4
  clear o0 o1 o2 o3 p4
  have ct : W6.cell? ⟨gt, 0, none⟩ = some (.bool m.t.is) := HO3.out.r.cell 0
  obtain ⟨q, hq⟩ : ∃ q, q = m.t.is := ⟨_, rfl⟩
  rw [← hq] at ct HSK
  clear hq
  cases q with
  | true =>
    have HK2 : Hid (K2 = K) := by unfold Hid; rw [HSK.out, if_pos rfl]
    clear HSK
    go_upto_region 5 with fail
    have hrw : Hid (∀ w9, Exc (fun j => j = w.heap.size + 1 ∨ j = w.heap.size + 2) W6 w9 → Row w9 w.heap.size (cpc K) 31 ∧ Row w9 gt (tpc m.t) 48) := fun w9 hx => ⟨(hx.block _ HO0.out.r.lt (fun e => by rcases e with e | e <;> omega)).trans HO0.out.r, (hx.block _ HO3.out.r.lt (fun e => by have := HGT.out; rcases e with e | e <;> omega)).trans HO3.out.r⟩
    have hS0 : Exc (fun j => j = w.heap.size + 1 ∨ j = w.heap.size + 2) W6 W6.drew := ⟨rfl, rfl, rfl, Nat.le_refl _, fun _ _ _ => rfl⟩
    have H1 : Row W6.drew (w.heap.size + 1) (cpc cz) 31 := HO1.out.r
    have H2 : Row (W6.drew.setRow (w.heap.size + 1) (cpc K)) (w.heap.size + 2) (tpc tN) 48 := (setRow_other _ _ _ _ (by omega)).trans HO2.out.r
    have hS1 : Exc (fun j => j = w.heap.size + 1 ∨ j = w.heap.size + 2) W6 (W6.drew.setRow (w.heap.size + 1) (cpc K)) := ⟨rfl, rfl, rfl, by simp, fun k hk hn => setRow_other _ _ _ _ (fun e => hn (.inl e))⟩
    have hS2 : Exc (fun j => j = w.heap.size + 1 ∨ j = w.heap.size + 2) W6 ((W6.drew.setRow (w.heap.size + 1) (cpc K)).setRow (w.heap.size + 2) (tpc m.t)) := ⟨rfl, rfl, rfl, by simp, fun k hk hn => (setRow_other _ _ _ _ (fun e => hn (.inr e))).trans (setRow_other _ _ _ _ (fun e => hn (.inl e)))⟩
    have HP9 : Hid (PSt B L w L1 m.S ((W6.drew.setRow (w.heap.size + 1) (cpc K)).setRow (w.heap.size + 2) (tpc m.t))) := ((HP4.out.post (Below.refl _ _).drew).row HO1.out.n HO1.out.ge _).row HO2.out.n HO2.out.ge _
    have HR1 : Hid (Row ((W6.drew.setRow (w.heap.size + 1) (cpc K)).setRow (w.heap.size + 2) (tpc m.t)) (w.heap.size + 1) (cpc K) 31) := (setRow_other _ _ _ _ (by omega)).trans (setRow_heap _ _ _ _ _ _ H1)
    have HR2 : Hid (Row ((W6.drew.setRow (w.heap.size + 1) (cpc K)).setRow (w.heap.size + 2) (tpc m.t)) (w.heap.size + 2) (tpc m.t) 48) := setRow_heap _ _ _ _ _ _ H2
    refine wp_region_held (S := fun w' => Exc (fun j => j = w.heap.size + 1 ∨ j = w.heap.size + 2) W6 w') (by kernel_rfl) ?_
    change wpAnyH _ _ _ _ _ _ _ _ W6.drew
    refine wpAnyH_takeD 0 (some 38) (v := .agg (cpc K)) rfl (by kernel_rfl) (by kernel_rfl) (by kernel_rfl) (by kernel_rfl) (fun _ _ _ h => h) (Or.inl ⟨by rfl, fun w9 hSw => ?_⟩) hS0 ?_
    · have q := load_rows (P := Tryz.prog) 31 (w.heap.size) (cpc K) _ w9 (hrw.out w9 hSw).1 Tryz.underlying31 (by rfl) (info_cpu _)
      unfold execOp
      exact q
    try simp only [Act.put, List.setIfInBounds_toArray, List.set_cons_zero, List.set_cons_succ]
    refine wpAnyH_takeD 1 (some 39) (v := .agg (tpc m.t)) rfl (by kernel_rfl) (by kernel_rfl) (by kernel_rfl) (by kernel_rfl) (fun _ _ _ h => h) (Or.inl ⟨by rfl, fun w9 hSw => ?_⟩) hS0 ?_
    · have q := load_rows (P := Tryz.prog) 48 (gt) (tpc m.t) _ w9 (hrw.out w9 hSw).2 Tryz.underlying48 (by rfl) (info_trap _)
      unfold execOp
      exact q
    try simp only [Act.put, List.setIfInBounds_toArray, List.set_cons_zero, List.set_cons_succ]
    refine wpAnyH_store_row 2 31 (.tmp 10) (.tmp 38) (by kernel_rfl) (by kernel_rfl) (w.heap.size + 1) (cpc cz) (cpc K) (by rfl) (by rfl) H1 (info_cpu _) (by rw [cpc_size, cpc_size]) (cpc_ones _) hS1 ?_
    try simp only [Act.put, List.setIfInBounds_toArray, List.set_cons_zero, List.set_cons_succ]
    refine wpAnyH_store_row 3 48 (.tmp 11) (.tmp 39) (by kernel_rfl) (by kernel_rfl) (w.heap.size + 2) (tpc tN) (tpc m.t) (by rfl) (by rfl) H2 (info_trap _) (tpc_sz _ _) (tpc_ones _) hS2 ?_
    try simp only [Act.put, List.setIfInBounds_toArray, List.set_cons_zero, List.set_cons_succ]
    refine wpAnyH_done (by kernel_rfl) ?_ _
    go_wp2_with fail
    refine bodyPost_ret (v := .tuple #[.agg (cpc K), .agg (tpc m.t)]) (results_cc _ _ (w.heap.size + 1) (w.heap.size + 2) 31 48 _ _ (0, 0) (0, 0) _ _ Tryz.results24 (by rfl) (by rfl) HR1.out HR2.out Tryz.underlying31 (by rfl) (info_cpu _) Tryz.underlying48 (by rfl) (info_trap _)) rfl ⟨by rw [HK2.out], L1, HP9.out⟩
  | false =>
    have HK2 : Hid (K2 = bhK K ad sz) := by unfold Hid; rw [HSK.out, if_neg (by decide)]
    clear HSK
    have HR : Hid (∀ j v, (rsc K.rv K.ra K.rs)[j]? = some v → W6.cell? ⟨w.heap.size, 79 + j, none⟩ = some v) := HO0.out.r.res
    have HTH : Hid (∀ W, Below W6.heap.size W6 W → W.there w.heap.size 79 (rsc (bhK K ad sz).rv (bhK K ad sz).ra (bhK K ad sz).rs).size) := fun W hb => (HO0.out.post hb).r.there (by rw [cpc_size]; show 79 + 3 ≤ 82; omega)
    go_upto_region 5 with (first | (refine wpList_load_agg (by rfl) _ _ (by rfl) w.heap.size 79 (by rfl) (rsc K.rv K.ra K.rs) _ HR.out Tryz.underlying29 (by rfl) (info_res _ _ _) ?_) | (go_at_call 49; refine (HBH.out _).mono ?_; rintro e w7 ⟨rfl, hb7⟩; have HB7 : Hid (Below W6.heap.size W6 w7) := hb7; clear hb7) | (refine wpList_store_part (by rfl) _ _ _ (by rfl) (by rfl) w.heap.size 79 _ (by rfl) (by rfl) (HTH.out _ HB7.out) (info_res _ _ _) (rsc_ones _ _ _) ?_))
    refine on_P (motive := fun W => Code.wp _ _ _ _ W) (Q := fun W => Own w L1 W w.heap.size (cpc (bhK K ad sz)) 31 ∧ Own w L1 W (w.heap.size + 1) (cpc cz) 31 ∧ Own w L1 W (w.heap.size + 2) (tpc tN) 48 ∧ Own w L1 W gt (tpc m.t) 48 ∧ PSt B L w L1 m.S W) ⟨⟨by have q := (HO0.out.post HB7.out).r.lay (rsc (bhK K ad sz).rv (bhK K ad sz).ra (bhK K ad sz).rs).toList 79; rw [show (rsc (bhK K ad sz).rv (bhK K ad sz).ra (bhK K ad sz).rs).toList = [.bool (bhK K ad sz).rv, .int .u64 (n64 (bhK K ad sz).ra), .int .i64 (bhK K ad sz).rs] from rfl, cpc_res, bhK_res] at q; exact q, HO0.out.n, HO0.out.ge⟩, ⟨(HO1.out.post HB7.out).r.lays (by omega) _ _, HO1.out.n, HO1.out.ge⟩, ⟨(HO2.out.post HB7.out).r.lays (by omega) _ _, HO2.out.n, HO2.out.ge⟩, ⟨(HO3.out.post HB7.out).r.lays (by have := HGT.out; omega) _ _, HO3.out.n, HO3.out.ge⟩, PSt.lay HO0.out.n HO0.out.ge _ _ (HP4.out.post HB7.out)⟩ ?_
    clear HP4 HB7 HR HTH ct HBH HO3
    clear HO0 HO1 HO2
    rintro W8 ⟨o0, o1, o2, o3, p4⟩
    have HO0 : Hid (Own w L1 W8 w.heap.size (cpc (bhK K ad sz)) 31) := o0
    have HO1 : Hid (Own w L1 W8 (w.heap.size + 1) (cpc cz) 31) := o1
    have HO2 : Hid (Own w L1 W8 (w.heap.size + 2) (tpc tN) 48) := o2
    have HO3 : Hid (Own w L1 W8 gt (tpc m.t) 48) := o3
    have HP4 : Hid (PSt B L w L1 m.S W8) := p4
    clear o0 o1 o2 o3 p4
    have hrw : Hid (∀ w9, Exc (fun j => j = w.heap.size + 1 ∨ j = w.heap.size + 2) W8 w9 → Row w9 w.heap.size (cpc (bhK K ad sz)) 31 ∧ Row w9 gt (tpc m.t) 48) := fun w9 hx => ⟨(hx.block _ HO0.out.r.lt (fun e => by rcases e with e | e <;> omega)).trans HO0.out.r, (hx.block _ HO3.out.r.lt (fun e => by have := HGT.out; rcases e with e | e <;> omega)).trans HO3.out.r⟩
    have hS0 : Exc (fun j => j = w.heap.size + 1 ∨ j = w.heap.size + 2) W8 W8.drew := ⟨rfl, rfl, rfl, Nat.le_refl _, fun _ _ _ => rfl⟩
    have H1 : Row W8.drew (w.heap.size + 1) (cpc cz) 31 := HO1.out.r
    have H2 : Row (W8.drew.setRow (w.heap.size + 1) (cpc (bhK K ad sz))) (w.heap.size + 2) (tpc tN) 48 := (setRow_other _ _ _ _ (by omega)).trans HO2.out.r
    have hS1 : Exc (fun j => j = w.heap.size + 1 ∨ j = w.heap.size + 2) W8 (W8.drew.setRow (w.heap.size + 1) (cpc (bhK K ad sz))) := ⟨rfl, rfl, rfl, by simp, fun k hk hn => setRow_other _ _ _ _ (fun e => hn (.inl e))⟩
    have hS2 : Exc (fun j => j = w.heap.size + 1 ∨ j = w.heap.size + 2) W8 ((W8.drew.setRow (w.heap.size + 1) (cpc (bhK K ad sz))).setRow (w.heap.size + 2) (tpc m.t)) := ⟨rfl, rfl, rfl, by simp, fun k hk hn => (setRow_other _ _ _ _ (fun e => hn (.inr e))).trans (setRow_other _ _ _ _ (fun e => hn (.inl e)))⟩
    have HP9 : Hid (PSt B L w L1 m.S ((W8.drew.setRow (w.heap.size + 1) (cpc (bhK K ad sz))).setRow (w.heap.size + 2) (tpc m.t))) := ((HP4.out.post (Below.refl _ _).drew).row HO1.out.n HO1.out.ge _).row HO2.out.n HO2.out.ge _
    have HR1 : Hid (Row ((W8.drew.setRow (w.heap.size + 1) (cpc (bhK K ad sz))).setRow (w.heap.size + 2) (tpc m.t)) (w.heap.size + 1) (cpc (bhK K ad sz)) 31) := (setRow_other _ _ _ _ (by omega)).trans (setRow_heap _ _ _ _ _ _ H1)
    have HR2 : Hid (Row ((W8.drew.setRow (w.heap.size + 1) (cpc (bhK K ad sz))).setRow (w.heap.size + 2) (tpc m.t)) (w.heap.size + 2) (tpc m.t) 48) := setRow_heap _ _ _ _ _ _ H2
    refine wp_region_held (S := fun w' => Exc (fun j => j = w.heap.size + 1 ∨ j = w.heap.size + 2) W8 w') (by kernel_rfl) ?_
    change wpAnyH _ _ _ _ _ _ _ _ W8.drew
    refine wpAnyH_takeD 0 (some 38) (v := .agg (cpc (bhK K ad sz))) rfl (by kernel_rfl) (by kernel_rfl) (by kernel_rfl) (by kernel_rfl) (fun _ _ _ h => h) (Or.inl ⟨by rfl, fun w9 hSw => ?_⟩) hS0 ?_
    · have q := load_rows (P := Tryz.prog) 31 (w.heap.size) (cpc (bhK K ad sz)) _ w9 (hrw.out w9 hSw).1 Tryz.underlying31 (by rfl) (info_cpu _)
      unfold execOp
      exact q
    try simp only [Act.put, List.setIfInBounds_toArray, List.set_cons_zero, List.set_cons_succ]
    refine wpAnyH_takeD 1 (some 39) (v := .agg (tpc m.t)) rfl (by kernel_rfl) (by kernel_rfl) (by kernel_rfl) (by kernel_rfl) (fun _ _ _ h => h) (Or.inl ⟨by rfl, fun w9 hSw => ?_⟩) hS0 ?_
    · have q := load_rows (P := Tryz.prog) 48 (gt) (tpc m.t) _ w9 (hrw.out w9 hSw).2 Tryz.underlying48 (by rfl) (info_trap _)
      unfold execOp
      exact q
    try simp only [Act.put, List.setIfInBounds_toArray, List.set_cons_zero, List.set_cons_succ]
    refine wpAnyH_store_row 2 31 (.tmp 10) (.tmp 38) (by kernel_rfl) (by kernel_rfl) (w.heap.size + 1) (cpc cz) (cpc (bhK K ad sz)) (by rfl) (by rfl) H1 (info_cpu _) (by rw [cpc_size, cpc_size]) (cpc_ones _) hS1 ?_
    try simp only [Act.put, List.setIfInBounds_toArray, List.set_cons_zero, List.set_cons_succ]
    refine wpAnyH_store_row 3 48 (.tmp 11) (.tmp 39) (by kernel_rfl) (by kernel_rfl) (w.heap.size + 2) (tpc tN) (tpc m.t) (by rfl) (by rfl) H2 (info_trap _) (tpc_sz _ _) (tpc_ones _) hS2 ?_
    try simp only [Act.put, List.setIfInBounds_toArray, List.set_cons_zero, List.set_cons_succ]
    refine wpAnyH_done (by kernel_rfl) ?_ _
    go_wp2_with fail
    refine bodyPost_ret (v := .tuple #[.agg (cpc (bhK K ad sz)), .agg (tpc m.t)]) (results_cc _ _ (w.heap.size + 1) (w.heap.size + 2) 31 48 _ _ (0, 0) (0, 0) _ _ Tryz.results24 (by rfl) (by rfl) HR1.out HR2.out Tryz.underlying31 (by rfl) (info_cpu _) Tryz.underlying48 (by rfl) (info_trap _)) rfl ⟨by rw [HK2.out], L1, HP9.out⟩
end Go.Proofs.YtlhgphokfpnfeaaGreatDoor
