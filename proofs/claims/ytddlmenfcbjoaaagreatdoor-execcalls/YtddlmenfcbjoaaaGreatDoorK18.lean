import Derived.Test.YtddlmenfcbjoaaaGreatDoorK17
namespace Go.Proofs.YtddlmenfcbjoaaaGreatDoor
set_option linter.unusedVariables false
set_option maxRecDepth 100000
set_option maxHeartbeats 8000000
open Go.ChangeShapes Go.WideShapes Go.ChangeAt Go.RowKit Go.Deep _root_.Go.Proofs.Tryz
theorem MW (w : World) : (zeroValue 29).run prog w = .ok (.agg (rsc false 0#64 0)) w := by kernel_rfl
theorem yN (v v' : Bool) (a a' : BitVec 64) (s s' : Int) : (rsc v a s).size = (rsc v' a' s').size := rfl
def bh (a ad : BitVec 64) (s sz : Int) : Bool := decide (n64 (ad - a) < IntKind.u64.wrap s) || decide (n64 (a - ad) < IntKind.u64.wrap sz)
def bhK (K : Cp) (ad : BitVec 64) (sz : Int) : Cp := if bh K.ra ad K.rs sz = true then nores K else K
theorem uY (K : Cp) (ad : BitVec 64) (sz : Int) (w : World) : Calls prog 131 #[.agg (rsc K.rv K.ra K.rs), .int .u64 (n64 ad), .int .i64 sz] w fun e w' => e = .returned (.agg (rsc (bhK K ad sz).rv (bhK K ad sz).ra (bhK K ad sz).rs)) ∧ Below w.heap.size w w' := by
 obtain ⟨W0, hW0, r0, r1, b0, s0⟩ := cN w (rsc K.rv K.ra K.rs) (rsc false 0#64 0) 29 29
 have hz := MW
 have c1 : W0.cell? ⟨w.heap.size, 1, none⟩ = some (.int .u64 (n64 K.ra)) := r0.out.cell 1
 have c2 : W0.cell? ⟨w.heap.size, 2, none⟩ = some (.int .i64 K.rs) := r0.out.cell 2
 have e1 := iW ad K.ra
 have e2 := iW K.ra ad
 have HT : Hid (bh K.ra ad K.rs sz = true → bhK K ad sz = nores K) := fun q => by unfold bhK; rw [if_pos q]
 have HF : Hid (bh K.ra ad K.rs sz = false → bhK K ad sz = K) := fun q => by unfold bhK; rw [q, if_neg (by decide)]
 have HBT : Hid (bh K.ra ad K.rs sz = (decide (n64 (ad - K.ra) < IntKind.u64.wrap K.rs) || decide (n64 (K.ra - ad) < IntKind.u64.wrap sz))) := rfl
 obtain ⟨Kb, hKb⟩ : ∃ Kb, Kb = bhK K ad sz := ⟨_, rfl⟩
 rw [← hKb] at HT HF ⊢
 generalize bh K.ra ad K.rs sz = b at HT HF HBT
 generalize n64 (ad - K.ra) = d1 at e1 HBT
 generalize n64 (K.ra - ad) = d2 at e2 HBT
 clear s0 hKb
 go_enter func131, ntmps131
 go_upto_region 1 with fail
 clear hW0
 by_cases h1 : d1 < IntKind.u64.wrap K.rs
 ·have hb := HT.out (by rw [HBT.out, decide_eq_true h1]; rfl)
  subst hb
  clear HT HF HBT
  go_wp2_with (first | (refine aC (by rfl) 29 _ (by rfl) (rsc false 0#64 0) (by kernel_rfl) ?_) | (refine aA (by rfl) _ _ _ (by rfl) (by rfl) _ _ _ (by rfl) (by rfl) r1.out (cK _ _ _) (yN _ _ _ _ _ _) (fF _ _ _) ?_))
  refine ZqH (v := .agg (rsc false 0#64 0)) (ZqM results131 _ _ (w.heap.size + 1) 29 _ (0, 0) _ (by rfl) (ZqW _ _ _ _ _ _ r1.out) underlying29 (by rfl) (cK _ _ _)) rfl ⟨rfl, aW b0.out (by omega) _⟩
 ·by_cases h2 : d2 < IntKind.u64.wrap sz
  ·have hb := HT.out (by rw [HBT.out, decide_eq_true h2, Bool.or_true])
   subst hb
   clear HT HF HBT
   go_wp2_with (first | (refine aC (by rfl) 29 _ (by rfl) (rsc false 0#64 0) (by kernel_rfl) ?_) | (refine aA (by rfl) _ _ _ (by rfl) (by rfl) _ _ _ (by rfl) (by rfl) r1.out (cK _ _ _) (yN _ _ _ _ _ _) (fF _ _ _) ?_))
   refine ZqH (v := .agg (rsc false 0#64 0)) (ZqM results131 _ _ (w.heap.size + 1) 29 _ (0, 0) _ (by rfl) (ZqW _ _ _ _ _ _ r1.out) underlying29 (by rfl) (cK _ _ _)) rfl ⟨rfl, aW b0.out (by omega) _⟩
  ·have hb := HF.out (by rw [HBT.out, decide_eq_false h1, decide_eq_false h2]; rfl)
   subst hb
   clear HT HF HBT
   go_wp2_with (first | (refine wpList_load_row (by rfl) _ _ (by rfl) _ (by rfl) 29 _ (0, 0) _ r0.out underlying29 (by rfl) (cK _ _ _) ?_) | (refine aA (by rfl) _ _ _ (by rfl) (by rfl) _ _ _ (by rfl) (by rfl) r1.out (cK _ _ _) (yN _ _ _ _ _ _) (fF _ _ _) ?_))
   refine ZqH (v := .agg (rsc Kb.rv Kb.ra Kb.rs)) (ZqM results131 _ _ (w.heap.size + 1) 29 _ (0, 0) _ (by rfl) (ZqW _ _ _ _ _ _ r1.out) underlying29 (by rfl) (cK _ _ _)) rfl ⟨rfl, aW b0.out (by omega) _⟩
theorem zQ (K : Cp) (ad : BitVec 64) (sz : Int) : { K with rv := (bhK K ad sz).rv, ra := (bhK K ad sz).ra, rs := (bhK K ad sz).rs } = bhK K ad sz := by
 unfold bhK
 split
 ·rfl
 ·rfl
theorem PSt.lay {B : Nat} {L L1 : Lay} {S1 : St} {w : World} {g : Nat} (hn : ¬ L1.own g) (hg : w.heap.size ≤ g) : ∀ (l : List Value) (o : Nat) {W : World}, PSt B L w L1 S1 W → PSt B L w L1 S1 (W.setCells g o l)
 | [], _, _, h => h
 | v :: r, o, _, h => by rw [World.setCells]; exact PSt.lay hn hg r (o + 1) (h.put hn hg o v)
def stK (K : Cp) (m : Mv) (ad : BitVec 64) (sz : Int) : Cp := if m.t.is = true then K else bhK K ad sz
theorem qH {B : Nat} {L : Lay} {S : St} {w : World} (h : PB B L S w) (v : BitVec 64) (g : Nat) (hg : w.heap[g]? = some (.cells #[.int .u64 (n64 v)] 22 (0, 0))) (hn : ¬ L.own g) : Mde B L w (.func (.func 166) #[] #[.pointer (some ⟨g, 0, none⟩)]) (some fun _ => v) :=
 .one _ _ _ (fun x W => by kernel_rfl) (fun L1 S1 W hp x => by
  have hr : Row W g #[.int .u64 (n64 v)] 22 := (hp.x.block g (Row.lt hg) hn).trans hg
  exact (BY (.int .u64 (n64 v)) (n64 x) g W (hr.cell 0)).mono fun e w' q => ⟨q.1, by rw [q.2]; exact ZqD _ _⟩)
theorem EW {B : Nat} {L : Lay} {S : St} (w : World) (h : PB B L S w) (hs : Sok S) (hT : Tb w) (hB : 0 < B) (k : Cp) (ad : BitVec 64) (sz : Int) (v : BitVec 64) :
  Calls prog 95 #[.agg (cpc k), .pointer (some ⟨L.b, 0, none⟩), .int .u64 (n64 ad), .int .i64 sz, .int .u64 (n64 v)] w fun e w' => e = .returned (.tuple #[.agg (cpc (stK (PR k) (PL S (wS L.b (PR k) ad) sz (some fun _ => v)) ad sz)), .agg (tpc (PL S (wS L.b (PR k) ad) sz (some fun _ => v)).t)]) ∧ ∃ L', PSt B L w L' (PL S (wS L.b (PR k) ad) sz (some fun _ => v)).S w' := by
 obtain ⟨W0, hW0, r0, r1, r2, b0, s0⟩ := jE w (cpc k) (cpc cz) (tpc tN) 31 31 42
 clear s0
 have hzt := bU
 have hzc := cC
 have HP0 : Hid (PSt B L w L S W0) := (PSt.refl h).post b0
 have hlo : ∀ g, w.heap.size ≤ g → ¬ L.own g := fun g hg e => by have := h.own_hi _ e; omega
 have HO0 : Hid (Own w L W0 w.heap.size (cpc k) 31) := ⟨r0, hlo _ (by omega), by omega⟩
 have HO1 : Hid (Own w L W0 (w.heap.size + 1) (cpc cz) 31) := ⟨r1, hlo _ (by omega), by omega⟩
 have HO2 : Hid (Own w L W0 (w.heap.size + 2) (tpc tN) 42) := ⟨r2, hlo _ (by omega), by omega⟩
 have HPR : Hid (∀ W, Calls prog 10 #[.agg (cpc k)] W fun e w' => e = .returned (.agg (cpc (PR k))) ∧ Below W.heap.size W w') := fun W => jF k W
 have HB0 := hid b0
 have HLG : Hid (∀ W, Calls prog 128 #[.agg (cpc (PR k)), .pointer (some ⟨L.b, 0, none⟩), .int .u64 (n64 ad)] W fun e w' => e = .returned (.agg (wyc (wS L.b (PR k) ad))) ∧ Below W.heap.size W w') := fun W => by
  have q := nR (PR k) L.b ad W
  rw [fR] at q
  exact q
 have HPL : Hid (∀ W g, Below w.heap.size w W → W.heap[g]? = some (.cells #[.int .u64 (n64 v)] 22 (0, 0)) → w.heap.size ≤ g → Calls prog 129 #[.agg (wyc (wS L.b (PR k) ad)), .int .i64 sz, .func (.func 166) #[] #[.pointer (some ⟨g, 0, none⟩)]] W fun e w' => e = .returned (.tuple #[.int .u64 (n64 (PL S (wS L.b (PR k) ad) sz (some fun _ => v)).old), .int .u64 (n64 (PL S (wS L.b (PR k) ad) sz (some fun _ => v)).st), .agg (tpc (PL S (wS L.b (PR k) ad) sz (some fun _ => v)).t)]) ∧ ∃ L', PSt B L W L' (PL S (wS L.b (PR k) ad) sz (some fun _ => v)).S w') := fun W g hb hg hw => uB W (h.later hb) hs (hT.next hb) hB (wS L.b (PR k) ad) rfl sz _ _ (qH (h.later hb) v g hg (hlo g hw))
 have HAL : Hid (∀ W, Calls prog 130 #[.int .u64 (n64 v)] W fun e w' => e = .returned (.func (.func 166) #[] #[.pointer (some ⟨W.heap.size, 0, none⟩)]) ∧ w' = W.alloc (.cells #[.int .u64 (n64 v)] 22)) := fun W => uV v W
 generalize PL S (wS L.b (PR k) ad) sz (some fun _ => v) = m at HPL ⊢
 generalize wyc (wS L.b (PR k) ad) = wy at HPL HLG
 generalize PR k = K at HPR HLG ⊢
 have HBH : Hid (∀ W, Calls prog 131 #[.agg (rsc K.rv K.ra K.rs), .int .u64 (n64 ad), .int .i64 sz] W fun e w' => e = .returned (.agg (rsc (bhK K ad sz).rv (bhK K ad sz).ra (bhK K ad sz).rs)) ∧ Below W.heap.size W w') := fun W => uY K ad sz W
 have HSK : Hid (stK K m ad sz = if m.t.is = true then K else bhK K ad sz) := rfl
 obtain ⟨K2, hK2⟩ : ∃ K2, K2 = stK K m ad sz := ⟨_, rfl⟩
 rw [← hK2] at HSK ⊢
 clear hK2 h hs hT r0 r1 r2 b0
 go_enter func95, ntmps95
 go_upto_region 1 with fail
 clear hW0
 go_upto_region 2 with (first | (refine wpList_load_row (by rfl) _ _ (by rfl) _ (by rfl) 31 _ (0, 0) _ HO0.out.r underlying31 (by rfl) (aB _) ?_) | (go_at_call 10; refine (HPR.out _).mono ?_; rintro e w1 ⟨rfl, hb1⟩; have HB1 := hid hb1; clear hb1) | (refine aA (by rfl) _ _ _ (by rfl) (by rfl) _ _ _ (by rfl) (by rfl) (HO0.out.post HB1.out).r (aB _) (by rw [aE, aE]) (aO _) ?_))
 refine bT (motive := fun W => Code.wp _ _ _ _ W) (Q := fun W => Own w L W w.heap.size (cpc K) 31 ∧ Own w L W (w.heap.size + 1) (cpc cz) 31 ∧ Own w L W (w.heap.size + 2) (tpc tN) 42 ∧ PSt B L w L S W ∧ Below w.heap.size w W)
  ⟨⟨ZqW _ _ _ _ _ _ (HO0.out.post HB1.out).r, HO0.out.n, HO0.out.ge⟩, ⟨(setRow_other _ _ _ _ (by omega)).trans (HO1.out.post HB1.out).r, HO1.out.n, HO1.out.ge⟩, ⟨(setRow_other _ _ _ _ (by omega)).trans (HO2.out.post HB1.out).r, HO2.out.n, HO2.out.ge⟩, (HP0.out.post HB1.out).row HO0.out.n HO0.out.ge _, aW (HB0.out.trans (HB1.out.mono HB0.out.size)) (ZqE _) _⟩ ?_
 clear HO0 HO1 HO2 HP0 HB0 HB1 HPR
 rintro W2 ⟨o0, o1, o2, p2, b2⟩
 have HO0 := hid o0
 have HO1 := hid o1
 have HO2 := hid o2
 have HP2 := hid p2
 have HB2 := hid b2
 clear o0 o1 o2 p2 b2
 go_upto_region 3 with (first | (refine wpList_load_row (by rfl) _ _ (by rfl) _ (by rfl) 31 _ (0, 0) _ HO0.out.r underlying31 (by rfl) (aB _) ?_) | (go_at_call 128; refine (HLG.out _).mono ?_; rintro e w3 ⟨rfl, hb3⟩; have HB3 := hid hb3; clear hb3) | (go_at_call 130; refine (HAL.out _).mono ?_; rintro e w4 ⟨rfl, hw4⟩; have HW4 := hid hw4; have HB4 : Hid (Below W2.heap.size W2 w4) := (by unfold Hid; rw [hw4]; exact HB3.out.trans ((aG _ _).mono HB3.out.size)); clear hw4) | (go_at_call 129; refine (HPL.out w4 w3.heap.size (HB2.out.trans (HB4.out.mono HB2.out.size)) (by rw [HW4.out]; exact heap_alloc_new w3 _) (ZqO HB2.out.size HB3.out.size)).mono ?_; rintro e w5 ⟨rfl, L1, hp5⟩; have HP5 := hid hp5; clear hp5) | (refine aK (by rfl) 42 _ _ (by rfl) (by rfl) (tpc tN) (tpc m.t) (by rfl) (by rfl) (aD _) (bC _ _) (aN _) ?_))
 refine bT (motive := fun W => Code.wp _ _ _ _ W) (Q := fun W => Own w L1 W w.heap.size (cpc K) 31 ∧ Own w L1 W (w.heap.size + 1) (cpc cz) 31 ∧ Own w L1 W (w.heap.size + 2) (tpc tN) 42 ∧ Own w L1 W w5.heap.size (tpc m.t) 42 ∧ PSt B L w L1 m.S W) ⟨((HO0.out.post HB4.out).bus HP5.out).post (aG _ _), ((HO1.out.post HB4.out).bus HP5.out).post (aG _ _), ((HO2.out.post HB4.out).bus HP5.out).post (aG _ _), Own.new ((HP2.out.post HB4.out).trans HP5.out) _ _, ((HP2.out.post HB4.out).trans HP5.out).al _⟩ ?_
 clear HP2 HB2 HB3 HW4 HLG HPL HAL
 have HGT : Hid (w.heap.size + 2 < w5.heap.size) := by have := HP5.out.x.size; have := HB4.out.size; have := HO2.out.r.lt; unfold Hid; omega
 clear HP5 HB4
 generalize w5.heap.size = gt at HGT ⊢
 clear HO0 HO1 HO2
 rintro W6 ⟨o0, o1, o2, o3, p4⟩
 have HO0 := hid o0
 have HO1 := hid o1
 have HO2 := hid o2
 have HO3 := hid o3
 have HP4 := hid p4
 clear o0 o1 o2 o3 p4
 have ct : W6.cell? ⟨gt, 0, none⟩ = some (.bool m.t.is) := HO3.out.r.cell 0
 obtain ⟨q, hq⟩ : ∃ q, q = m.t.is := ⟨_, rfl⟩
 rw [← hq] at ct HSK
 clear hq
 cases q with
 | true =>
  have HK2 : Hid (K2 = K) := by unfold Hid; rw [HSK.out, if_pos rfl]
  clear HSK
  go_upto_region 5 with fail
  have hrw : Hid (∀ w9, Exc (fun j => j = w.heap.size + 1 ∨ j = w.heap.size + 2) W6 w9 → Row w9 w.heap.size (cpc K) 31 ∧ Row w9 gt (tpc m.t) 42) := fun w9 hx => ⟨(hx.block _ HO0.out.r.lt (fun e => by rcases e with e | e <;> omega)).trans HO0.out.r, (hx.block _ HO3.out.r.lt (fun e => by have := HGT.out; rcases e with e | e <;> omega)).trans HO3.out.r⟩
  have hS0 : Exc (fun j => j = w.heap.size + 1 ∨ j = w.heap.size + 2) W6 W6.drew := ⟨rfl, rfl, rfl, ZqE _, fun _ _ _ => rfl⟩
  have H1 : Row W6.drew (w.heap.size + 1) (cpc cz) 31 := HO1.out.r
  have H2 : Row (W6.drew.setRow (w.heap.size + 1) (cpc K)) (w.heap.size + 2) (tpc tN) 42 := (setRow_other _ _ _ _ (by omega)).trans HO2.out.r
  have hS1 : Exc (fun j => j = w.heap.size + 1 ∨ j = w.heap.size + 2) W6 (W6.drew.setRow (w.heap.size + 1) (cpc K)) := ⟨rfl, rfl, rfl, by simp, fun k hk hn => setRow_other _ _ _ _ (fun e => hn (.inl e))⟩
  have hS2 : Exc (fun j => j = w.heap.size + 1 ∨ j = w.heap.size + 2) W6 ((W6.drew.setRow (w.heap.size + 1) (cpc K)).setRow (w.heap.size + 2) (tpc m.t)) := ⟨rfl, rfl, rfl, by simp, fun k hk hn => (setRow_other _ _ _ _ (fun e => hn (.inr e))).trans (setRow_other _ _ _ _ (fun e => hn (.inl e)))⟩
  have HP9 : Hid (PSt B L w L1 m.S ((W6.drew.setRow (w.heap.size + 1) (cpc K)).setRow (w.heap.size + 2) (tpc m.t))) := ((HP4.out.post (ZqD _ _).drew).row HO1.out.n HO1.out.ge _).row HO2.out.n HO2.out.ge _
  have HR1 : Hid (Row ((W6.drew.setRow (w.heap.size + 1) (cpc K)).setRow (w.heap.size + 2) (tpc m.t)) (w.heap.size + 1) (cpc K) 31) := (setRow_other _ _ _ _ (by omega)).trans (ZqW _ _ _ _ _ _ H1)
  have HR2 : Hid (Row ((W6.drew.setRow (w.heap.size + 1) (cpc K)).setRow (w.heap.size + 2) (tpc m.t)) (w.heap.size + 2) (tpc m.t) 42) := ZqW _ _ _ _ _ _ H2
  refine wp_region_held (S := fun w' => Exc (fun j => j = w.heap.size + 1 ∨ j = w.heap.size + 2) W6 w') (by kernel_rfl) ?_
  change wpAnyH _ _ _ _ _ _ _ _ W6.drew
  refine aF 0 (some 38) (v := .agg (cpc K)) rfl (by kernel_rfl) (by kernel_rfl) (by kernel_rfl) (by kernel_rfl) (fun _ _ _ h => h) (Or.inl ⟨by rfl, fun w9 hSw => ?_⟩) hS0 ?_
  ·have q := bQ (P := prog) 31 (w.heap.size) (cpc K) _ w9 (hrw.out w9 hSw).1 underlying31 (by rfl) (aB _)
   unfold execOp
   exact q
  try simp only [Act.put, ZqA, ZqB, ZqC]
  refine aF 1 (some 39) (v := .agg (tpc m.t)) rfl (by kernel_rfl) (by kernel_rfl) (by kernel_rfl) (by kernel_rfl) (fun _ _ _ h => h) (Or.inl ⟨by rfl, fun w9 hSw => ?_⟩) hS0 ?_
  ·have q := bQ (P := prog) 42 (gt) (tpc m.t) _ w9 (hrw.out w9 hSw).2 underlying42 (by rfl) (aD _)
   unfold execOp
   exact q
  try simp only [Act.put, ZqA, ZqB, ZqC]
  refine aV 2 31 (.tmp 10) (.tmp 38) (by kernel_rfl) (by kernel_rfl) (w.heap.size + 1) (cpc cz) (cpc K) (by rfl) (by rfl) H1 (aB _) (by rw [aE, aE]) (aO _) hS1 ?_
  try simp only [Act.put, ZqA, ZqB, ZqC]
  refine aV 3 42 (.tmp 11) (.tmp 39) (by kernel_rfl) (by kernel_rfl) (w.heap.size + 2) (tpc tN) (tpc m.t) (by rfl) (by rfl) H2 (aD _) (bC _ _) (aN _) hS2 ?_
  try simp only [Act.put, ZqA, ZqB, ZqC]
  refine wpAnyH_done (by kernel_rfl) ?_ _
  go_wp2_with fail
  refine ZqH (v := .tuple #[.agg (cpc K), .agg (tpc m.t)]) (kE _ _ (w.heap.size + 1) (w.heap.size + 2) 31 42 _ _ (0, 0) (0, 0) _ _ results95 (by rfl) (by rfl) HR1.out HR2.out underlying31 (by rfl) (aB _) underlying42 (by rfl) (aD _)) rfl ⟨by rw [HK2.out], L1, HP9.out⟩
 | false =>
  have HK2 : Hid (K2 = bhK K ad sz) := by unfold Hid; rw [HSK.out, if_neg (by decide)]
  clear HSK
  have HR : Hid (∀ j v, (rsc K.rv K.ra K.rs)[j]? = some v → W6.cell? ⟨w.heap.size, 79 + j, none⟩ = some v) := HO0.out.r.res
  have HTH : Hid (∀ W, Below W6.heap.size W6 W → W.there w.heap.size 79 (rsc (bhK K ad sz).rv (bhK K ad sz).ra (bhK K ad sz).rs).size) := fun W hb => (HO0.out.post hb).r.there (by rw [aE]; show 79 + 3 ≤ 82; omega)
  go_upto_region 5 with (first | (refine aY (by rfl) _ _ (by rfl) w.heap.size 79 (by rfl) (rsc K.rv K.ra K.rs) _ HR.out underlying29 (by rfl) (cK _ _ _) ?_) | (go_at_call 131; refine (HBH.out _).mono ?_; rintro e w7 ⟨rfl, hb7⟩; have HB7 := hid hb7; clear hb7) | (refine aX (by rfl) _ _ _ (by rfl) (by rfl) w.heap.size 79 _ (by rfl) (by rfl) (HTH.out _ HB7.out) (cK _ _ _) (fF _ _ _) ?_))
  refine bT (motive := fun W => Code.wp _ _ _ _ W) (Q := fun W => Own w L1 W w.heap.size (cpc (bhK K ad sz)) 31 ∧ Own w L1 W (w.heap.size + 1) (cpc cz) 31 ∧ Own w L1 W (w.heap.size + 2) (tpc tN) 42 ∧ Own w L1 W gt (tpc m.t) 42 ∧ PSt B L w L1 m.S W) ⟨⟨by have q := (HO0.out.post HB7.out).r.lay (rsc (bhK K ad sz).rv (bhK K ad sz).ra (bhK K ad sz).rs).toList 79; rw [show (rsc (bhK K ad sz).rv (bhK K ad sz).ra (bhK K ad sz).rs).toList = [.bool (bhK K ad sz).rv, .int .u64 (n64 (bhK K ad sz).ra), .int .i64 (bhK K ad sz).rs] from rfl, iP, zQ] at q; exact q, HO0.out.n, HO0.out.ge⟩, ⟨(HO1.out.post HB7.out).r.lays (by omega) _ _, HO1.out.n, HO1.out.ge⟩, ⟨(HO2.out.post HB7.out).r.lays (by omega) _ _, HO2.out.n, HO2.out.ge⟩, ⟨(HO3.out.post HB7.out).r.lays (by have := HGT.out; omega) _ _, HO3.out.n, HO3.out.ge⟩, PSt.lay HO0.out.n HO0.out.ge _ _ (HP4.out.post HB7.out)⟩ ?_
  clear HP4 HB7 HR HTH ct HBH HO3
  clear HO0 HO1 HO2
  rintro W8 ⟨o0, o1, o2, o3, p4⟩
  have HO0 := hid o0
  have HO1 := hid o1
  have HO2 := hid o2
  have HO3 := hid o3
  have HP4 := hid p4
  clear o0 o1 o2 o3 p4
  have hrw : Hid (∀ w9, Exc (fun j => j = w.heap.size + 1 ∨ j = w.heap.size + 2) W8 w9 → Row w9 w.heap.size (cpc (bhK K ad sz)) 31 ∧ Row w9 gt (tpc m.t) 42) := fun w9 hx => ⟨(hx.block _ HO0.out.r.lt (fun e => by rcases e with e | e <;> omega)).trans HO0.out.r, (hx.block _ HO3.out.r.lt (fun e => by have := HGT.out; rcases e with e | e <;> omega)).trans HO3.out.r⟩
  have hS0 : Exc (fun j => j = w.heap.size + 1 ∨ j = w.heap.size + 2) W8 W8.drew := ⟨rfl, rfl, rfl, ZqE _, fun _ _ _ => rfl⟩
  have H1 : Row W8.drew (w.heap.size + 1) (cpc cz) 31 := HO1.out.r
  have H2 : Row (W8.drew.setRow (w.heap.size + 1) (cpc (bhK K ad sz))) (w.heap.size + 2) (tpc tN) 42 := (setRow_other _ _ _ _ (by omega)).trans HO2.out.r
  have hS1 : Exc (fun j => j = w.heap.size + 1 ∨ j = w.heap.size + 2) W8 (W8.drew.setRow (w.heap.size + 1) (cpc (bhK K ad sz))) := ⟨rfl, rfl, rfl, by simp, fun k hk hn => setRow_other _ _ _ _ (fun e => hn (.inl e))⟩
  have hS2 : Exc (fun j => j = w.heap.size + 1 ∨ j = w.heap.size + 2) W8 ((W8.drew.setRow (w.heap.size + 1) (cpc (bhK K ad sz))).setRow (w.heap.size + 2) (tpc m.t)) := ⟨rfl, rfl, rfl, by simp, fun k hk hn => (setRow_other _ _ _ _ (fun e => hn (.inr e))).trans (setRow_other _ _ _ _ (fun e => hn (.inl e)))⟩
  have HP9 : Hid (PSt B L w L1 m.S ((W8.drew.setRow (w.heap.size + 1) (cpc (bhK K ad sz))).setRow (w.heap.size + 2) (tpc m.t))) := ((HP4.out.post (ZqD _ _).drew).row HO1.out.n HO1.out.ge _).row HO2.out.n HO2.out.ge _
  have HR1 : Hid (Row ((W8.drew.setRow (w.heap.size + 1) (cpc (bhK K ad sz))).setRow (w.heap.size + 2) (tpc m.t)) (w.heap.size + 1) (cpc (bhK K ad sz)) 31) := (setRow_other _ _ _ _ (by omega)).trans (ZqW _ _ _ _ _ _ H1)
  have HR2 : Hid (Row ((W8.drew.setRow (w.heap.size + 1) (cpc (bhK K ad sz))).setRow (w.heap.size + 2) (tpc m.t)) (w.heap.size + 2) (tpc m.t) 42) := ZqW _ _ _ _ _ _ H2
  refine wp_region_held (S := fun w' => Exc (fun j => j = w.heap.size + 1 ∨ j = w.heap.size + 2) W8 w') (by kernel_rfl) ?_
  change wpAnyH _ _ _ _ _ _ _ _ W8.drew
  refine aF 0 (some 38) (v := .agg (cpc (bhK K ad sz))) rfl (by kernel_rfl) (by kernel_rfl) (by kernel_rfl) (by kernel_rfl) (fun _ _ _ h => h) (Or.inl ⟨by rfl, fun w9 hSw => ?_⟩) hS0 ?_
  ·have q := bQ (P := prog) 31 (w.heap.size) (cpc (bhK K ad sz)) _ w9 (hrw.out w9 hSw).1 underlying31 (by rfl) (aB _)
   unfold execOp
   exact q
  try simp only [Act.put, ZqA, ZqB, ZqC]
  refine aF 1 (some 39) (v := .agg (tpc m.t)) rfl (by kernel_rfl) (by kernel_rfl) (by kernel_rfl) (by kernel_rfl) (fun _ _ _ h => h) (Or.inl ⟨by rfl, fun w9 hSw => ?_⟩) hS0 ?_
  ·have q := bQ (P := prog) 42 (gt) (tpc m.t) _ w9 (hrw.out w9 hSw).2 underlying42 (by rfl) (aD _)
   unfold execOp
   exact q
  try simp only [Act.put, ZqA, ZqB, ZqC]
  refine aV 2 31 (.tmp 10) (.tmp 38) (by kernel_rfl) (by kernel_rfl) (w.heap.size + 1) (cpc cz) (cpc (bhK K ad sz)) (by rfl) (by rfl) H1 (aB _) (by rw [aE, aE]) (aO _) hS1 ?_
  try simp only [Act.put, ZqA, ZqB, ZqC]
  refine aV 3 42 (.tmp 11) (.tmp 39) (by kernel_rfl) (by kernel_rfl) (w.heap.size + 2) (tpc tN) (tpc m.t) (by rfl) (by rfl) H2 (aD _) (bC _ _) (aN _) hS2 ?_
  try simp only [Act.put, ZqA, ZqB, ZqC]
  refine wpAnyH_done (by kernel_rfl) ?_ _
  go_wp2_with fail
  refine ZqH (v := .tuple #[.agg (cpc (bhK K ad sz)), .agg (tpc m.t)]) (kE _ _ (w.heap.size + 1) (w.heap.size + 2) 31 42 _ _ (0, 0) (0, 0) _ _ results95 (by rfl) (by rfl) HR1.out HR2.out underlying31 (by rfl) (aB _) underlying42 (by rfl) (aD _)) rfl ⟨by rw [HK2.out], L1, HP9.out⟩
end Go.Proofs.YtddlmenfcbjoaaaGreatDoor
