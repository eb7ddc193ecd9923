import Derived.Test.YtdpfjhacmlnklaaGreatDoorK22
namespace Go.Proofs.YtdpfjhacmlnklaaGreatDoor
set_option linter.unusedVariables false
set_option maxRecDepth 100000
set_option maxHeartbeats 8000000
open Go.ChangeShapes Go.WideShapes Go.ChangeAt Go.RowKit Go.Deep _root_.Go.Proofs.Tryz
def rsK (K : Cp) (m : Mv) (ad : BitVec 64) (sz : Int) : Cp := if m.t.is = true then K else { K with rv := true, ra := ad, rs := sz }
theorem nC {B : Nat} {L : Lay} {S : St} (w : World) (h : PB B L S w) (hs : Sok S) (hT : Tb w) (hB : 0 < B) (k : Cp) (ad : BitVec 64) (sz : Int) :
  Calls prog 28 #[.agg (cpc k), .pointer (some ⟨L.b, 0, none⟩), .int .u64 (n64 ad), .int .i64 sz] w fun e w' => e = .returned (.tuple #[.int .u64 (n64 (AT S (wL L.b (PR k) ad) sz none).old), .agg (cpc (rsK (PR k) (AT S (wL L.b (PR k) ad) sz none) ad sz)), .agg (tpc (AT S (wL L.b (PR k) ad) sz none).t)]) ∧ ∃ L', PSt B L w L' (AT S (wL L.b (PR k) ad) sz none).S w' := by
 obtain ⟨W0, hW0, r0, r1, r2, b0, s0⟩ := jS w (cpc k) (cpc cz) (tpc tN) 31 31 46
 clear s0
 have hzt := bE
 have hzc := dM
 have HP0 : Hid (PSt B L w L S W0) := (PSt.refl h).post b0
 have hlo : ∀ g, w.heap.size ≤ g → ¬ L.own g := fun g hg e => by have := h.own_hi _ e; omega
 have HO0 : Hid (Own w L W0 w.heap.size (cpc k) 31) := ⟨r0, hlo _ (by omega), by omega⟩
 have HO1 : Hid (Own w L W0 (w.heap.size + 1) (cpc cz) 31) := ⟨r1, hlo _ (by omega), by omega⟩
 have HO2 : Hid (Own w L W0 (w.heap.size + 2) (tpc tN) 46) := ⟨r2, hlo _ (by omega), by omega⟩
 have HPR : Hid (∀ W, Calls prog 46 #[.agg (cpc k)] W fun e w' => e = .returned (.agg (cpc (PR k))) ∧ Below W.heap.size W w') := fun W => nB k W
 have HB0 := hid b0
 have HLG : Hid (∀ W, Calls prog 51 #[.agg (cpc (PR k)), .pointer (some ⟨L.b, 0, none⟩), .int .u64 (n64 ad)] W fun e w' => e = .returned (.agg (wyc (wL L.b (PR k) ad))) ∧ Below W.heap.size W w') := fun W => by
  have q := kO (PR k) L.b ad W
  rw [kH] at q
  exact q
 have HPL : Hid (∀ W, Below w.heap.size w W → Calls prog 53 #[.agg (wyc (wL L.b (PR k) ad)), .int .i64 sz, .nilFunc] W fun e w' => e = .returned (.tuple #[.int .u64 (n64 (AT S (wL L.b (PR k) ad) sz none).old), .int .u64 (n64 (AT S (wL L.b (PR k) ad) sz none).st), .agg (tpc (AT S (wL L.b (PR k) ad) sz none).t)]) ∧ ∃ L', PSt B L W L' (AT S (wL L.b (PR k) ad) sz none).S w') := fun W hb => iS W (h.later hb) hs (hT.next hb) hB (wL L.b (PR k) ad) rfl sz .nilFunc none .nil
 generalize AT S (wL L.b (PR k) ad) sz none = m at HPL ⊢
 generalize wyc (wL L.b (PR k) ad) = wy at HPL HLG
 generalize PR k = K at HPR HLG ⊢
 have HSK : Hid (rsK K m ad sz = if m.t.is = true then K else { K with rv := true, ra := ad, rs := sz }) := rfl
 obtain ⟨K2, hK2⟩ : ∃ K2, K2 = rsK K m ad sz := ⟨_, rfl⟩
 rw [← hK2] at HSK ⊢
 clear hK2 h hs hT r0 r1 r2 b0
 go_enter func28, ntmps28
 go_upto_region 1 with fail
 clear hW0
 go_upto_region 2 with (first | (refine wpList_load_row (by rfl) _ _ (by rfl) _ (by rfl) 31 _ (0, 0) _ HO0.out.r underlying31 (by rfl) (aE _) ?_) | (go_at_call 46; refine (HPR.out _).mono ?_; rintro e w1 ⟨rfl, hb1⟩; have HB1 := hid hb1; clear hb1) | (refine aC (by rfl) _ _ _ (by rfl) (by rfl) _ _ _ (by rfl) (by rfl) (HO0.out.post HB1.out).r (aE _) (by rw [aI, aI]) (aY _) ?_))
 refine bK (motive := fun W => Code.wp _ _ _ _ W) (Q := fun W => Own w L W w.heap.size (cpc K) 31 ∧ Own w L W (w.heap.size + 1) (cpc cz) 31 ∧ Own w L W (w.heap.size + 2) (tpc tN) 46 ∧ PSt B L w L S W ∧ Below w.heap.size w W)
  ⟨⟨setRow_heap _ _ _ _ _ _ (HO0.out.post HB1.out).r, HO0.out.n, HO0.out.ge⟩, ⟨(setRow_other _ _ _ _ (by omega)).trans (HO1.out.post HB1.out).r, HO1.out.n, HO1.out.ge⟩, ⟨(setRow_other _ _ _ _ (by omega)).trans (HO2.out.post HB1.out).r, HO2.out.n, HO2.out.ge⟩, (HP0.out.post HB1.out).row HO0.out.n HO0.out.ge _, bC (HB0.out.trans (HB1.out.mono HB0.out.size)) (Nat.le_refl _) _⟩ ?_
 clear HO0 HO1 HO2 HP0 HB0 HB1 HPR
 rintro W2 ⟨o0, o1, o2, p2, b2⟩
 have HO0 := hid o0
 have HO1 := hid o1
 have HO2 := hid o2
 have HP2 := hid p2
 have HB2 := hid b2
 clear o0 o1 o2 p2 b2
 go_upto_region 3 with (first | (refine wpList_load_row (by rfl) _ _ (by rfl) _ (by rfl) 31 _ (0, 0) _ HO0.out.r underlying31 (by rfl) (aE _) ?_) | (go_at_call 51; refine (HLG.out _).mono ?_; rintro e w3 ⟨rfl, hb3⟩; have HB3 := hid hb3; clear hb3) | (go_at_call 53; refine (HPL.out w3 (HB2.out.trans (HB3.out.mono HB2.out.size))).mono ?_; rintro e w5 ⟨rfl, L1, hp5⟩; have HP5 := hid hp5; clear hp5) | (refine aK (by rfl) 46 _ _ (by rfl) (by rfl) (tpc tN) (tpc m.t) (by rfl) (by rfl) (aB _) (aP _ _) (aG _) ?_))
 refine bK (motive := fun W => Code.wp _ _ _ _ W) (Q := fun W => Own w L1 W w.heap.size (cpc K) 31 ∧ Own w L1 W (w.heap.size + 1) (cpc cz) 31 ∧ Own w L1 W (w.heap.size + 2) (tpc tN) 46 ∧ Own w L1 W w5.heap.size (tpc m.t) 46 ∧ PSt B L w L1 m.S W) ⟨((HO0.out.post HB3.out).bus HP5.out).post (aF _ _), ((HO1.out.post HB3.out).bus HP5.out).post (aF _ _), ((HO2.out.post HB3.out).bus HP5.out).post (aF _ _), Own.new ((HP2.out.post HB3.out).trans HP5.out) _ _, ((HP2.out.post HB3.out).trans HP5.out).al _⟩ ?_
 have HGT : Hid (w.heap.size + 2 < w5.heap.size) := by have := HP5.out.x.size; have := HB3.out.size; have := HO2.out.r.lt; unfold Hid; omega
 clear HP2 HB2 HB3 HP5 HLG HPL
 generalize w5.heap.size = gt at HGT ⊢
 clear HO0 HO1 HO2
 rintro W6 ⟨o0, o1, o2, o3, p4⟩
 have HO0 := hid o0
 have HO1 := hid o1
 have HO2 := hid o2
 have HO3 := hid o3
 have HP4 := hid p4
 clear o0 o1 o2 o3 p4
 have ct : W6.cell? ⟨gt, 0, none⟩ = some (.bool m.t.is) := HO3.out.r.cell 0
 obtain ⟨q, hq⟩ : ∃ q, q = m.t.is := ⟨_, rfl⟩
 rw [← hq] at ct HSK
 clear hq
 cases q with
 | true =>
  have HK2 : Hid (K2 = K) := by unfold Hid; rw [HSK.out, if_pos rfl]
  clear HSK
  go_upto_region 5 with fail
  have hrw : Hid (∀ w9, Exc (fun j => j = w.heap.size + 1 ∨ j = w.heap.size + 2) W6 w9 → Row w9 w.heap.size (cpc K) 31 ∧ Row w9 gt (tpc m.t) 46) := fun w9 hx => ⟨(hx.block _ HO0.out.r.lt (fun e => by rcases e with e | e <;> omega)).trans HO0.out.r, (hx.block _ HO3.out.r.lt (fun e => by have := HGT.out; rcases e with e | e <;> omega)).trans HO3.out.r⟩
  have hS0 : Exc (fun j => j = w.heap.size + 1 ∨ j = w.heap.size + 2) W6 W6.drew := ⟨rfl, rfl, rfl, Nat.le_refl _, fun _ _ _ => rfl⟩
  have H1 : Row W6.drew (w.heap.size + 1) (cpc cz) 31 := HO1.out.r
  have H2 : Row (W6.drew.setRow (w.heap.size + 1) (cpc K)) (w.heap.size + 2) (tpc tN) 46 := (setRow_other _ _ _ _ (by omega)).trans HO2.out.r
  have hS1 : Exc (fun j => j = w.heap.size + 1 ∨ j = w.heap.size + 2) W6 (W6.drew.setRow (w.heap.size + 1) (cpc K)) := ⟨rfl, rfl, rfl, by simp, fun k hk hn => setRow_other _ _ _ _ (fun e => hn (.inl e))⟩
  have hS2 : Exc (fun j => j = w.heap.size + 1 ∨ j = w.heap.size + 2) W6 ((W6.drew.setRow (w.heap.size + 1) (cpc K)).setRow (w.heap.size + 2) (tpc m.t)) := ⟨rfl, rfl, rfl, by simp, fun k hk hn => (setRow_other _ _ _ _ (fun e => hn (.inr e))).trans (setRow_other _ _ _ _ (fun e => hn (.inl e)))⟩
  have HP9 : Hid (PSt B L w L1 m.S ((W6.drew.setRow (w.heap.size + 1) (cpc K)).setRow (w.heap.size + 2) (tpc m.t))) := ((HP4.out.post (Below.refl _ _).drew).row HO1.out.n HO1.out.ge _).row HO2.out.n HO2.out.ge _
  have HR1 : Hid (Row ((W6.drew.setRow (w.heap.size + 1) (cpc K)).setRow (w.heap.size + 2) (tpc m.t)) (w.heap.size + 1) (cpc K) 31) := (setRow_other _ _ _ _ (by omega)).trans (setRow_heap _ _ _ _ _ _ H1)
  have HR2 : Hid (Row ((W6.drew.setRow (w.heap.size + 1) (cpc K)).setRow (w.heap.size + 2) (tpc m.t)) (w.heap.size + 2) (tpc m.t) 46) := setRow_heap _ _ _ _ _ _ H2
  refine wp_region_held (S := fun w' => Exc (fun j => j = w.heap.size + 1 ∨ j = w.heap.size + 2) W6 w') (by kernel_rfl) ?_
  change wpAnyH _ _ _ _ _ _ _ _ W6.drew
  refine aL 0 (some 33) (v := .int .u64 (n64 m.old)) rfl (by kernel_rfl) (by kernel_rfl) (by kernel_rfl) (by kernel_rfl) (fun _ _ _ h => h) (Or.inl ⟨by rfl, fun w9 hSw => by go_simp⟩) hS0 ?_
  try simp only [Act.put, List.setIfInBounds_toArray, List.set_cons_zero, List.set_cons_succ]
  refine aL 1 (some 34) (v := .agg (cpc K)) rfl (by kernel_rfl) (by kernel_rfl) (by kernel_rfl) (by kernel_rfl) (fun _ _ _ h => h) (Or.inl ⟨by rfl, fun w9 hSw => ?_⟩) hS0 ?_
  ·have q := bM (P := prog) 31 (w.heap.size) (cpc K) _ w9 (hrw.out w9 hSw).1 underlying31 (by rfl) (aE _)
   unfold execOp
   exact q
  try simp only [Act.put, List.setIfInBounds_toArray, List.set_cons_zero, List.set_cons_succ]
  refine aL 2 (some 35) (v := .agg (tpc m.t)) rfl (by kernel_rfl) (by kernel_rfl) (by kernel_rfl) (by kernel_rfl) (fun _ _ _ h => h) (Or.inl ⟨by rfl, fun w9 hSw => ?_⟩) hS0 ?_
  ·have q := bM (P := prog) 46 (gt) (tpc m.t) _ w9 (hrw.out w9 hSw).2 underlying46 (by rfl) (aB _)
   unfold execOp
   exact q
  try simp only [Act.put, List.setIfInBounds_toArray, List.set_cons_zero, List.set_cons_succ]
  refine aL 3 (some 8) (v := .int .u64 (n64 m.old)) rfl (by kernel_rfl) (by kernel_rfl) (by kernel_rfl) (by kernel_rfl) (fun _ _ _ h => h) (Or.inl ⟨by rfl, fun w9 hSw => by go_simp⟩) hS0 ?_
  try simp only [Act.put, List.setIfInBounds_toArray, List.set_cons_zero, List.set_cons_succ]
  refine aN 4 31 (.tmp 9) (.tmp 34) (by kernel_rfl) (by kernel_rfl) (w.heap.size + 1) (cpc cz) (cpc K) (by rfl) (by rfl) H1 (aE _) (by rw [aI, aI]) (aY _) hS1 ?_
  try simp only [Act.put, List.setIfInBounds_toArray, List.set_cons_zero, List.set_cons_succ]
  refine aN 5 46 (.tmp 10) (.tmp 35) (by kernel_rfl) (by kernel_rfl) (w.heap.size + 2) (tpc tN) (tpc m.t) (by rfl) (by rfl) H2 (aB _) (aP _ _) (aG _) hS2 ?_
  try simp only [Act.put, List.setIfInBounds_toArray, List.set_cons_zero, List.set_cons_succ]
  refine wpAnyH_done (by kernel_rfl) ?_ _
  go_wp2_with fail
  refine bodyPost_ret (v := .tuple #[.int .u64 (n64 m.old), .agg (cpc K), .agg (tpc m.t)]) (cW _ _ (w.heap.size + 1) (w.heap.size + 2) 31 46 _ _ (0, 0) (0, 0) _ _ _ results28 (by rfl) (by rfl) (by rfl) HR1.out HR2.out underlying31 (by rfl) (aE _) underlying46 (by rfl) (aB _)) rfl ⟨by rw [HK2.out], L1, HP9.out⟩
 | false =>
  have HK2 : Hid (K2 = { K with rv := true, ra := ad, rs := sz }) := by unfold Hid; rw [HSK.out, if_neg (by decide)]
  clear HSK
  have HTH : Hid (W6.there w.heap.size 79 (rsc true ad sz).size) := HO0.out.r.there (by rw [aI]; show 79 + 3 ≤ 82; omega)
  go_upto_region 5 with (first | (refine aH (by rfl) 29 _ (by rfl) (rsc true ad sz) (by kernel_rfl) ?_) | (refine aO (by rfl) _ _ _ (by rfl) (by rfl) w.heap.size 79 _ (by rfl) (by rfl) HTH.out (bJ _ _ _) (cE _ _ _) ?_))
  refine bK (motive := fun W => Code.wp _ _ _ _ W) (Q := fun W => Own w L1 W w.heap.size (cpc { K with rv := true, ra := ad, rs := sz }) 31 ∧ Own w L1 W (w.heap.size + 1) (cpc cz) 31 ∧ Own w L1 W (w.heap.size + 2) (tpc tN) 46 ∧ Own w L1 W gt (tpc m.t) 46 ∧ PSt B L w L1 m.S W) ⟨⟨by have q := HO0.out.r.lay (rsc true ad sz).toList 79; rw [show (rsc true ad sz).toList = [.bool true, .int .u64 (n64 ad), .int .i64 sz] from rfl, dP] at q; exact q, HO0.out.n, HO0.out.ge⟩, ⟨HO1.out.r.lays (by omega) _ _, HO1.out.n, HO1.out.ge⟩, ⟨HO2.out.r.lays (by omega) _ _, HO2.out.n, HO2.out.ge⟩, ⟨HO3.out.r.lays (by have := HGT.out; omega) _ _, HO3.out.n, HO3.out.ge⟩, PSt.lay HO0.out.n HO0.out.ge _ _ HP4.out⟩ ?_
  clear HP4 HTH ct HO3
  clear HO0 HO1 HO2
  rintro W8 ⟨o0, o1, o2, o3, p4⟩
  have HO0 := hid o0
  have HO1 := hid o1
  have HO2 := hid o2
  have HO3 := hid o3
  have HP4 := hid p4
  clear o0 o1 o2 o3 p4
  have hrw : Hid (∀ w9, Exc (fun j => j = w.heap.size + 1 ∨ j = w.heap.size + 2) W8 w9 → Row w9 w.heap.size (cpc { K with rv := true, ra := ad, rs := sz }) 31 ∧ Row w9 gt (tpc m.t) 46) := fun w9 hx => ⟨(hx.block _ HO0.out.r.lt (fun e => by rcases e with e | e <;> omega)).trans HO0.out.r, (hx.block _ HO3.out.r.lt (fun e => by have := HGT.out; rcases e with e | e <;> omega)).trans HO3.out.r⟩
  have hS0 : Exc (fun j => j = w.heap.size + 1 ∨ j = w.heap.size + 2) W8 W8.drew := ⟨rfl, rfl, rfl, Nat.le_refl _, fun _ _ _ => rfl⟩
  have H1 : Row W8.drew (w.heap.size + 1) (cpc cz) 31 := HO1.out.r
  have H2 : Row (W8.drew.setRow (w.heap.size + 1) (cpc { K with rv := true, ra := ad, rs := sz })) (w.heap.size + 2) (tpc tN) 46 := (setRow_other _ _ _ _ (by omega)).trans HO2.out.r
  have hS1 : Exc (fun j => j = w.heap.size + 1 ∨ j = w.heap.size + 2) W8 (W8.drew.setRow (w.heap.size + 1) (cpc { K with rv := true, ra := ad, rs := sz })) := ⟨rfl, rfl, rfl, by simp, fun k hk hn => setRow_other _ _ _ _ (fun e => hn (.inl e))⟩
  have hS2 : Exc (fun j => j = w.heap.size + 1 ∨ j = w.heap.size + 2) W8 ((W8.drew.setRow (w.heap.size + 1) (cpc { K with rv := true, ra := ad, rs := sz })).setRow (w.heap.size + 2) (tpc m.t)) := ⟨rfl, rfl, rfl, by simp, fun k hk hn => (setRow_other _ _ _ _ (fun e => hn (.inr e))).trans (setRow_other _ _ _ _ (fun e => hn (.inl e)))⟩
  have HP9 : Hid (PSt B L w L1 m.S ((W8.drew.setRow (w.heap.size + 1) (cpc { K with rv := true, ra := ad, rs := sz })).setRow (w.heap.size + 2) (tpc m.t))) := ((HP4.out.post (Below.refl _ _).drew).row HO1.out.n HO1.out.ge _).row HO2.out.n HO2.out.ge _
  have HR1 : Hid (Row ((W8.drew.setRow (w.heap.size + 1) (cpc { K with rv := true, ra := ad, rs := sz })).setRow (w.heap.size + 2) (tpc m.t)) (w.heap.size + 1) (cpc { K with rv := true, ra := ad, rs := sz }) 31) := (setRow_other _ _ _ _ (by omega)).trans (setRow_heap _ _ _ _ _ _ H1)
  have HR2 : Hid (Row ((W8.drew.setRow (w.heap.size + 1) (cpc { K with rv := true, ra := ad, rs := sz })).setRow (w.heap.size + 2) (tpc m.t)) (w.heap.size + 2) (tpc m.t) 46) := setRow_heap _ _ _ _ _ _ H2
  refine wp_region_held (S := fun w' => Exc (fun j => j = w.heap.size + 1 ∨ j = w.heap.size + 2) W8 w') (by kernel_rfl) ?_
  change wpAnyH _ _ _ _ _ _ _ _ W8.drew
  refine aL 0 (some 33) (v := .int .u64 (n64 m.old)) rfl (by kernel_rfl) (by kernel_rfl) (by kernel_rfl) (by kernel_rfl) (fun _ _ _ h => h) (Or.inl ⟨by rfl, fun w9 hSw => by go_simp⟩) hS0 ?_
  try simp only [Act.put, List.setIfInBounds_toArray, List.set_cons_zero, List.set_cons_succ]
  refine aL 1 (some 34) (v := .agg (cpc { K with rv := true, ra := ad, rs := sz })) rfl (by kernel_rfl) (by kernel_rfl) (by kernel_rfl) (by kernel_rfl) (fun _ _ _ h => h) (Or.inl ⟨by rfl, fun w9 hSw => ?_⟩) hS0 ?_
  ·have q := bM (P := prog) 31 (w.heap.size) (cpc { K with rv := true, ra := ad, rs := sz }) _ w9 (hrw.out w9 hSw).1 underlying31 (by rfl) (aE _)
   unfold execOp
   exact q
  try simp only [Act.put, List.setIfInBounds_toArray, List.set_cons_zero, List.set_cons_succ]
  refine aL 2 (some 35) (v := .agg (tpc m.t)) rfl (by kernel_rfl) (by kernel_rfl) (by kernel_rfl) (by kernel_rfl) (fun _ _ _ h => h) (Or.inl ⟨by rfl, fun w9 hSw => ?_⟩) hS0 ?_
  ·have q := bM (P := prog) 46 (gt) (tpc m.t) _ w9 (hrw.out w9 hSw).2 underlying46 (by rfl) (aB _)
   unfold execOp
   exact q
  try simp only [Act.put, List.setIfInBounds_toArray, List.set_cons_zero, List.set_cons_succ]
  refine aL 3 (some 8) (v := .int .u64 (n64 m.old)) rfl (by kernel_rfl) (by kernel_rfl) (by kernel_rfl) (by kernel_rfl) (fun _ _ _ h => h) (Or.inl ⟨by rfl, fun w9 hSw => by go_simp⟩) hS0 ?_
  try simp only [Act.put, List.setIfInBounds_toArray, List.set_cons_zero, List.set_cons_succ]
  refine aN 4 31 (.tmp 9) (.tmp 34) (by kernel_rfl) (by kernel_rfl) (w.heap.size + 1) (cpc cz) (cpc { K with rv := true, ra := ad, rs := sz }) (by rfl) (by rfl) H1 (aE _) (by rw [aI, aI]) (aY _) hS1 ?_
  try simp only [Act.put, List.setIfInBounds_toArray, List.set_cons_zero, List.set_cons_succ]
  refine aN 5 46 (.tmp 10) (.tmp 35) (by kernel_rfl) (by kernel_rfl) (w.heap.size + 2) (tpc tN) (tpc m.t) (by rfl) (by rfl) H2 (aB _) (aP _ _) (aG _) hS2 ?_
  try simp only [Act.put, List.setIfInBounds_toArray, List.set_cons_zero, List.set_cons_succ]
  refine wpAnyH_done (by kernel_rfl) ?_ _
  go_wp2_with fail
  refine bodyPost_ret (v := .tuple #[.int .u64 (n64 m.old), .agg (cpc { K with rv := true, ra := ad, rs := sz }), .agg (tpc m.t)]) (cW _ _ (w.heap.size + 1) (w.heap.size + 2) 31 46 _ _ (0, 0) (0, 0) _ _ _ results28 (by rfl) (by rfl) (by rfl) HR1.out HR2.out underlying31 (by rfl) (aE _) underlying46 (by rfl) (aB _)) rfl ⟨by rw [HK2.out], L1, HP9.out⟩
end Go.Proofs.YtdpfjhacmlnklaaGreatDoor
