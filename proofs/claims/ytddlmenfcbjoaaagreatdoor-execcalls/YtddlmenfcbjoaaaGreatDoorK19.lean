import Derived.Test.YtddlmenfcbjoaaaGreatDoorK18
namespace Go.Proofs.YtddlmenfcbjoaaaGreatDoor
set_option linter.unusedVariables false
set_option maxRecDepth 100000
set_option maxHeartbeats 8000000
open Go.ChangeShapes Go.WideShapes Go.ChangeAt Go.RowKit Go.Deep _root_.Go.Proofs.Tryz
def rsK (K : Cp) (m : Mv) (ad : BitVec 64) (sz : Int) : Cp := if m.t.is = true then K else { K with rv := true, ra := ad, rs := sz }
theorem xH {B : Nat} {L : Lay} {S : St} (w : World) (h : PB B L S w) (hs : Sok S) (hT : Tb w) (hB : 0 < B) (k : Cp) (ad : BitVec 64) (sz : Int) :
  Calls prog 104 #[.agg (cpc k), .pointer (some ⟨L.b, 0, none⟩), .int .u64 (n64 ad), .int .i64 sz] w fun e w' => e = .returned (.tuple #[.int .u64 (n64 (AT S (wL L.b (PR k) ad) sz none).old), .agg (cpc (rsK (PR k) (AT S (wL L.b (PR k) ad) sz none) ad sz)), .agg (tpc (AT S (wL L.b (PR k) ad) sz none).t)]) ∧ ∃ L', PSt B L w L' (AT S (wL L.b (PR k) ad) sz none).S w' := by
 obtain ⟨W0, hW0, r0, r1, r2, b0, s0⟩ := jE w (cpc k) (cpc cz) (tpc tN) 31 31 42
 clear s0
 have hzt := bU
 have hzc := cC
 have HP0 : Hid (PSt B L w L S W0) := (PSt.refl h).post b0
 have hlo : ∀ g, w.heap.size ≤ g → ¬ L.own g := fun g hg e => by have := h.own_hi _ e; omega
 have HO0 : Hid (Own w L W0 w.heap.size (cpc k) 31) := ⟨r0, hlo _ (by omega), by omega⟩
 have HO1 : Hid (Own w L W0 (w.heap.size + 1) (cpc cz) 31) := ⟨r1, hlo _ (by omega), by omega⟩
 have HO2 : Hid (Own w L W0 (w.heap.size + 2) (tpc tN) 42) := ⟨r2, hlo _ (by omega), by omega⟩
 have HPR : Hid (∀ W, Calls prog 10 #[.agg (cpc k)] W fun e w' => e = .returned (.agg (cpc (PR k))) ∧ Below W.heap.size W w') := fun W => jF k W
 have HB0 := hid b0
 have HLG : Hid (∀ W, Calls prog 137 #[.agg (cpc (PR k)), .pointer (some ⟨L.b, 0, none⟩), .int .u64 (n64 ad)] W fun e w' => e = .returned (.agg (wyc (wL L.b (PR k) ad))) ∧ Below W.heap.size W w') := fun W => by
  have q := sO (PR k) L.b ad W
  rw [fR] at q
  exact q
 have HPL : Hid (∀ W, Below w.heap.size w W → Calls prog 138 #[.agg (wyc (wL L.b (PR k) ad)), .int .i64 sz, .nilFunc] W fun e w' => e = .returned (.tuple #[.int .u64 (n64 (AT S (wL L.b (PR k) ad) sz none).old), .int .u64 (n64 (AT S (wL L.b (PR k) ad) sz none).st), .agg (tpc (AT S (wL L.b (PR k) ad) sz none).t)]) ∧ ∃ L', PSt B L W L' (AT S (wL L.b (PR k) ad) sz none).S w') := fun W hb => pM W (h.later hb) hs (hT.next hb) hB (wL L.b (PR k) ad) rfl sz .nilFunc none .nil
 generalize AT S (wL L.b (PR k) ad) sz none = m at HPL ⊢
 generalize wyc (wL L.b (PR k) ad) = wy at HPL HLG
 generalize PR k = K at HPR HLG ⊢
 have HSK : Hid (rsK K m ad sz = if m.t.is = true then K else { K with rv := true, ra := ad, rs := sz }) := rfl
 obtain ⟨K2, hK2⟩ : ∃ K2, K2 = rsK K m ad sz := ⟨_, rfl⟩
 rw [← hK2] at HSK ⊢
 clear hK2 h hs hT r0 r1 r2 b0
 go_enter func104, ntmps104
 go_upto_region 1 with fail
 clear hW0
 go_upto_region 2 with (first | (refine wpList_load_row (by rfl) _ _ (by rfl) _ (by rfl) 31 _ (0, 0) _ HO0.out.r underlying31 (by rfl) (aB _) ?_) | (go_at_call 10; refine (HPR.out _).mono ?_; rintro e w1 ⟨rfl, hb1⟩; have HB1 := hid hb1; clear hb1) | (refine aA (by rfl) _ _ _ (by rfl) (by rfl) _ _ _ (by rfl) (by rfl) (HO0.out.post HB1.out).r (aB _) (by rw [aE, aE]) (aO _) ?_))
 refine bT (motive := fun W => Code.wp _ _ _ _ W) (Q := fun W => Own w L W w.heap.size (cpc K) 31 ∧ Own w L W (w.heap.size + 1) (cpc cz) 31 ∧ Own w L W (w.heap.size + 2) (tpc tN) 42 ∧ PSt B L w L S W ∧ Below w.heap.size w W)
  ⟨⟨ZqW _ _ _ _ _ _ (HO0.out.post HB1.out).r, HO0.out.n, HO0.out.ge⟩, ⟨(setRow_other _ _ _ _ (by omega)).trans (HO1.out.post HB1.out).r, HO1.out.n, HO1.out.ge⟩, ⟨(setRow_other _ _ _ _ (by omega)).trans (HO2.out.post HB1.out).r, HO2.out.n, HO2.out.ge⟩, (HP0.out.post HB1.out).row HO0.out.n HO0.out.ge _, aW (HB0.out.trans (HB1.out.mono HB0.out.size)) (ZqE _) _⟩ ?_
 clear HO0 HO1 HO2 HP0 HB0 HB1 HPR
 rintro W2 ⟨o0, o1, o2, p2, b2⟩
 have HO0 := hid o0
 have HO1 := hid o1
 have HO2 := hid o2
 have HP2 := hid p2
 have HB2 := hid b2
 clear o0 o1 o2 p2 b2
 go_upto_region 3 with (first | (refine wpList_load_row (by rfl) _ _ (by rfl) _ (by rfl) 31 _ (0, 0) _ HO0.out.r underlying31 (by rfl) (aB _) ?_) | (go_at_call 137; refine (HLG.out _).mono ?_; rintro e w3 ⟨rfl, hb3⟩; have HB3 := hid hb3; clear hb3) | (go_at_call 138; refine (HPL.out w3 (HB2.out.trans (HB3.out.mono HB2.out.size))).mono ?_; rintro e w5 ⟨rfl, L1, hp5⟩; have HP5 := hid hp5; clear hp5) | (refine aK (by rfl) 42 _ _ (by rfl) (by rfl) (tpc tN) (tpc m.t) (by rfl) (by rfl) (aD _) (bC _ _) (aN _) ?_))
 refine bT (motive := fun W => Code.wp _ _ _ _ W) (Q := fun W => Own w L1 W w.heap.size (cpc K) 31 ∧ Own w L1 W (w.heap.size + 1) (cpc cz) 31 ∧ Own w L1 W (w.heap.size + 2) (tpc tN) 42 ∧ Own w L1 W w5.heap.size (tpc m.t) 42 ∧ PSt B L w L1 m.S W) ⟨((HO0.out.post HB3.out).bus HP5.out).post (aG _ _), ((HO1.out.post HB3.out).bus HP5.out).post (aG _ _), ((HO2.out.post HB3.out).bus HP5.out).post (aG _ _), Own.new ((HP2.out.post HB3.out).trans HP5.out) _ _, ((HP2.out.post HB3.out).trans HP5.out).al _⟩ ?_
 have HGT : Hid (w.heap.size + 2 < w5.heap.size) := by have := HP5.out.x.size; have := HB3.out.size; have := HO2.out.r.lt; unfold Hid; omega
 clear HP2 HB2 HB3 HP5 HLG HPL
 generalize w5.heap.size = gt at HGT ⊢
 clear HO0 HO1 HO2
 rintro W6 ⟨o0, o1, o2, o3, p4⟩
 have HO0 := hid o0
 have HO1 := hid o1
 have HO2 := hid o2
 have HO3 := hid o3
 have HP4 := hid p4
 clear o0 o1 o2 o3 p4
 have ct : W6.cell? ⟨gt, 0, none⟩ = some (.bool m.t.is) := HO3.out.r.cell 0
 obtain ⟨q, hq⟩ : ∃ q, q = m.t.is := ⟨_, rfl⟩
 rw [← hq] at ct HSK
 clear hq
 cases q with
 | true =>
  have HK2 : Hid (K2 = K) := by unfold Hid; rw [HSK.out, if_pos rfl]
  clear HSK
  go_upto_region 5 with fail
  have hrw : Hid (∀ w9, Exc (fun j => j = w.heap.size + 1 ∨ j = w.heap.size + 2) W6 w9 → Row w9 w.heap.size (cpc K) 31 ∧ Row w9 gt (tpc m.t) 42) := fun w9 hx => ⟨(hx.block _ HO0.out.r.lt (fun e => by rcases e with e | e <;> omega)).trans HO0.out.r, (hx.block _ HO3.out.r.lt (fun e => by have := HGT.out; rcases e with e | e <;> omega)).trans HO3.out.r⟩
  have hS0 : Exc (fun j => j = w.heap.size + 1 ∨ j = w.heap.size + 2) W6 W6.drew := ⟨rfl, rfl, rfl, ZqE _, fun _ _ _ => rfl⟩
  have H1 : Row W6.drew (w.heap.size + 1) (cpc cz) 31 := HO1.out.r
  have H2 : Row (W6.drew.setRow (w.heap.size + 1) (cpc K)) (w.heap.size + 2) (tpc tN) 42 := (setRow_other _ _ _ _ (by omega)).trans HO2.out.r
  have hS1 : Exc (fun j => j = w.heap.size + 1 ∨ j = w.heap.size + 2) W6 (W6.drew.setRow (w.heap.size + 1) (cpc K)) := ⟨rfl, rfl, rfl, by simp, fun k hk hn => setRow_other _ _ _ _ (fun e => hn (.inl e))⟩
  have hS2 : Exc (fun j => j = w.heap.size + 1 ∨ j = w.heap.size + 2) W6 ((W6.drew.setRow (w.heap.size + 1) (cpc K)).setRow (w.heap.size + 2) (tpc m.t)) := ⟨rfl, rfl, rfl, by simp, fun k hk hn => (setRow_other _ _ _ _ (fun e => hn (.inr e))).trans (setRow_other _ _ _ _ (fun e => hn (.inl e)))⟩
  have HP9 : Hid (PSt B L w L1 m.S ((W6.drew.setRow (w.heap.size + 1) (cpc K)).setRow (w.heap.size + 2) (tpc m.t))) := ((HP4.out.post (ZqD _ _).drew).row HO1.out.n HO1.out.ge _).row HO2.out.n HO2.out.ge _
  have HR1 : Hid (Row ((W6.drew.setRow (w.heap.size + 1) (cpc K)).setRow (w.heap.size + 2) (tpc m.t)) (w.heap.size + 1) (cpc K) 31) := (setRow_other _ _ _ _ (by omega)).trans (ZqW _ _ _ _ _ _ H1)
  have HR2 : Hid (Row ((W6.drew.setRow (w.heap.size + 1) (cpc K)).setRow (w.heap.size + 2) (tpc m.t)) (w.heap.size + 2) (tpc m.t) 42) := ZqW _ _ _ _ _ _ H2
  refine wp_region_held (S := fun w' => Exc (fun j => j = w.heap.size + 1 ∨ j = w.heap.size + 2) W6 w') (by kernel_rfl) ?_
  change wpAnyH _ _ _ _ _ _ _ _ W6.drew
  refine aF 0 (some 33) (v := .int .u64 (n64 m.old)) rfl (by kernel_rfl) (by kernel_rfl) (by kernel_rfl) (by kernel_rfl) (fun _ _ _ h => h) (Or.inl ⟨by rfl, fun w9 hSw => by go_simp⟩) hS0 ?_
  try simp only [Act.put, ZqA, ZqB, ZqC]
  refine aF 1 (some 34) (v := .agg (cpc K)) rfl (by kernel_rfl) (by kernel_rfl) (by kernel_rfl) (by kernel_rfl) (fun _ _ _ h => h) (Or.inl ⟨by rfl, fun w9 hSw => ?_⟩) hS0 ?_
  ·have q := bQ (P := prog) 31 (w.heap.size) (cpc K) _ w9 (hrw.out w9 hSw).1 underlying31 (by rfl) (aB _)
   unfold execOp
   exact q
  try simp only [Act.put, ZqA, ZqB, ZqC]
  refine aF 2 (some 35) (v := .agg (tpc m.t)) rfl (by kernel_rfl) (by kernel_rfl) (by kernel_rfl) (by kernel_rfl) (fun _ _ _ h => h) (Or.inl ⟨by rfl, fun w9 hSw => ?_⟩) hS0 ?_
  ·have q := bQ (P := prog) 42 (gt) (tpc m.t) _ w9 (hrw.out w9 hSw).2 underlying42 (by rfl) (aD _)
   unfold execOp
   exact q
  try simp only [Act.put, ZqA, ZqB, ZqC]
  refine aF 3 (some 8) (v := .int .u64 (n64 m.old)) rfl (by kernel_rfl) (by kernel_rfl) (by kernel_rfl) (by kernel_rfl) (fun _ _ _ h => h) (Or.inl ⟨by rfl, fun w9 hSw => by go_simp⟩) hS0 ?_
  try simp only [Act.put, ZqA, ZqB, ZqC]
  refine aV 4 31 (.tmp 9) (.tmp 34) (by kernel_rfl) (by kernel_rfl) (w.heap.size + 1) (cpc cz) (cpc K) (by rfl) (by rfl) H1 (aB _) (by rw [aE, aE]) (aO _) hS1 ?_
  try simp only [Act.put, ZqA, ZqB, ZqC]
  refine aV 5 42 (.tmp 10) (.tmp 35) (by kernel_rfl) (by kernel_rfl) (w.heap.size + 2) (tpc tN) (tpc m.t) (by rfl) (by rfl) H2 (aD _) (bC _ _) (aN _) hS2 ?_
  try simp only [Act.put, ZqA, ZqB, ZqC]
  refine wpAnyH_done (by kernel_rfl) ?_ _
  go_wp2_with fail
  refine ZqH (v := .tuple #[.int .u64 (n64 m.old), .agg (cpc K), .agg (tpc m.t)]) (fN _ _ (w.heap.size + 1) (w.heap.size + 2) 31 42 _ _ (0, 0) (0, 0) _ _ _ results104 (by rfl) (by rfl) (by rfl) HR1.out HR2.out underlying31 (by rfl) (aB _) underlying42 (by rfl) (aD _)) rfl ⟨by rw [HK2.out], L1, HP9.out⟩
 | false =>
  have HK2 : Hid (K2 = { K with rv := true, ra := ad, rs := sz }) := by unfold Hid; rw [HSK.out, if_neg (by decide)]
  clear HSK
  have HTH : Hid (W6.there w.heap.size 79 (rsc true ad sz).size) := HO0.out.r.there (by rw [aE]; show 79 + 3 ≤ 82; omega)
  go_upto_region 5 with (first | (refine aC (by rfl) 29 _ (by rfl) (rsc true ad sz) (by kernel_rfl) ?_) | (refine aX (by rfl) _ _ _ (by rfl) (by rfl) w.heap.size 79 _ (by rfl) (by rfl) HTH.out (cK _ _ _) (fF _ _ _) ?_))
  refine bT (motive := fun W => Code.wp _ _ _ _ W) (Q := fun W => Own w L1 W w.heap.size (cpc { K with rv := true, ra := ad, rs := sz }) 31 ∧ Own w L1 W (w.heap.size + 1) (cpc cz) 31 ∧ Own w L1 W (w.heap.size + 2) (tpc tN) 42 ∧ Own w L1 W gt (tpc m.t) 42 ∧ PSt B L w L1 m.S W) ⟨⟨by have q := HO0.out.r.lay (rsc true ad sz).toList 79; rw [show (rsc true ad sz).toList = [.bool true, .int .u64 (n64 ad), .int .i64 sz] from rfl, iP] at q; exact q, HO0.out.n, HO0.out.ge⟩, ⟨HO1.out.r.lays (by omega) _ _, HO1.out.n, HO1.out.ge⟩, ⟨HO2.out.r.lays (by omega) _ _, HO2.out.n, HO2.out.ge⟩, ⟨HO3.out.r.lays (by have := HGT.out; omega) _ _, HO3.out.n, HO3.out.ge⟩, PSt.lay HO0.out.n HO0.out.ge _ _ HP4.out⟩ ?_
  clear HP4 HTH ct HO3
  clear HO0 HO1 HO2
  rintro W8 ⟨o0, o1, o2, o3, p4⟩
  have HO0 := hid o0
  have HO1 := hid o1
  have HO2 := hid o2
  have HO3 := hid o3
  have HP4 := hid p4
  clear o0 o1 o2 o3 p4
  have hrw : Hid (∀ w9, Exc (fun j => j = w.heap.size + 1 ∨ j = w.heap.size + 2) W8 w9 → Row w9 w.heap.size (cpc { K with rv := true, ra := ad, rs := sz }) 31 ∧ Row w9 gt (tpc m.t) 42) := fun w9 hx => ⟨(hx.block _ HO0.out.r.lt (fun e => by rcases e with e | e <;> omega)).trans HO0.out.r, (hx.block _ HO3.out.r.lt (fun e => by have := HGT.out; rcases e with e | e <;> omega)).trans HO3.out.r⟩
  have hS0 : Exc (fun j => j = w.heap.size + 1 ∨ j = w.heap.size + 2) W8 W8.drew := ⟨rfl, rfl, rfl, ZqE _, fun _ _ _ => rfl⟩
  have H1 : Row W8.drew (w.heap.size + 1) (cpc cz) 31 := HO1.out.r
  have H2 : Row (W8.drew.setRow (w.heap.size + 1) (cpc { K with rv := true, ra := ad, rs := sz })) (w.heap.size + 2) (tpc tN) 42 := (setRow_other _ _ _ _ (by omega)).trans HO2.out.r
  have hS1 : Exc (fun j => j = w.heap.size + 1 ∨ j = w.heap.size + 2) W8 (W8.drew.setRow (w.heap.size + 1) (cpc { K with rv := true, ra := ad, rs := sz })) := ⟨rfl, rfl, rfl, by simp, fun k hk hn => setRow_other _ _ _ _ (fun e => hn (.inl e))⟩
  have hS2 : Exc (fun j => j = w.heap.size + 1 ∨ j = w.heap.size + 2) W8 ((W8.drew.setRow (w.heap.size + 1) (cpc { K with rv := true, ra := ad, rs := sz })).setRow (w.heap.size + 2) (tpc m.t)) := ⟨rfl, rfl, rfl, by simp, fun k hk hn => (setRow_other _ _ _ _ (fun e => hn (.inr e))).trans (setRow_other _ _ _ _ (fun e => hn (.inl e)))⟩
  have HP9 : Hid (PSt B L w L1 m.S ((W8.drew.setRow (w.heap.size + 1) (cpc { K with rv := true, ra := ad, rs := sz })).setRow (w.heap.size + 2) (tpc m.t))) := ((HP4.out.post (ZqD _ _).drew).row HO1.out.n HO1.out.ge _).row HO2.out.n HO2.out.ge _
  have HR1 : Hid (Row ((W8.drew.setRow (w.heap.size + 1) (cpc { K with rv := true, ra := ad, rs := sz })).setRow (w.heap.size + 2) (tpc m.t)) (w.heap.size + 1) (cpc { K with rv := true, ra := ad, rs := sz }) 31) := (setRow_other _ _ _ _ (by omega)).trans (ZqW _ _ _ _ _ _ H1)
  have HR2 : Hid (Row ((W8.drew.setRow (w.heap.size + 1) (cpc { K with rv := true, ra := ad, rs := sz })).setRow (w.heap.size + 2) (tpc m.t)) (w.heap.size + 2) (tpc m.t) 42) := ZqW _ _ _ _ _ _ H2
  refine wp_region_held (S := fun w' => Exc (fun j => j = w.heap.size + 1 ∨ j = w.heap.size + 2) W8 w') (by kernel_rfl) ?_
  change wpAnyH _ _ _ _ _ _ _ _ W8.drew
  refine aF 0 (some 33) (v := .int .u64 (n64 m.old)) rfl (by kernel_rfl) (by kernel_rfl) (by kernel_rfl) (by kernel_rfl) (fun _ _ _ h => h) (Or.inl ⟨by rfl, fun w9 hSw => by go_simp⟩) hS0 ?_
  try simp only [Act.put, ZqA, ZqB, ZqC]
  refine aF 1 (some 34) (v := .agg (cpc { K with rv := true, ra := ad, rs := sz })) rfl (by kernel_rfl) (by kernel_rfl) (by kernel_rfl) (by kernel_rfl) (fun _ _ _ h => h) (Or.inl ⟨by rfl, fun w9 hSw => ?_⟩) hS0 ?_
  ·have q := bQ (P := prog) 31 (w.heap.size) (cpc { K with rv := true, ra := ad, rs := sz }) _ w9 (hrw.out w9 hSw).1 underlying31 (by rfl) (aB _)
   unfold execOp
   exact q
  try simp only [Act.put, ZqA, ZqB, ZqC]
  refine aF 2 (some 35) (v := .agg (tpc m.t)) rfl (by kernel_rfl) (by kernel_rfl) (by kernel_rfl) (by kernel_rfl) (fun _ _ _ h => h) (Or.inl ⟨by rfl, fun w9 hSw => ?_⟩) hS0 ?_
  ·have q := bQ (P := prog) 42 (gt) (tpc m.t) _ w9 (hrw.out w9 hSw).2 underlying42 (by rfl) (aD _)
   unfold execOp
   exact q
  try simp only [Act.put, ZqA, ZqB, ZqC]
  refine aF 3 (some 8) (v := .int .u64 (n64 m.old)) rfl (by kernel_rfl) (by kernel_rfl) (by kernel_rfl) (by kernel_rfl) (fun _ _ _ h => h) (Or.inl ⟨by rfl, fun w9 hSw => by go_simp⟩) hS0 ?_
  try simp only [Act.put, ZqA, ZqB, ZqC]
  refine aV 4 31 (.tmp 9) (.tmp 34) (by kernel_rfl) (by kernel_rfl) (w.heap.size + 1) (cpc cz) (cpc { K with rv := true, ra := ad, rs := sz }) (by rfl) (by rfl) H1 (aB _) (by rw [aE, aE]) (aO _) hS1 ?_
  try simp only [Act.put, ZqA, ZqB, ZqC]
  refine aV 5 42 (.tmp 10) (.tmp 35) (by kernel_rfl) (by kernel_rfl) (w.heap.size + 2) (tpc tN) (tpc m.t) (by rfl) (by rfl) H2 (aD _) (bC _ _) (aN _) hS2 ?_
  try simp only [Act.put, ZqA, ZqB, ZqC]
  refine wpAnyH_done (by kernel_rfl) ?_ _
  go_wp2_with fail
  refine ZqH (v := .tuple #[.int .u64 (n64 m.old), .agg (cpc { K with rv := true, ra := ad, rs := sz }), .agg (tpc m.t)]) (fN _ _ (w.heap.size + 1) (w.heap.size + 2) 31 42 _ _ (0, 0) (0, 0) _ _ _ results104 (by rfl) (by rfl) (by rfl) HR1.out HR2.out underlying31 (by rfl) (aB _) underlying42 (by rfl) (aD _)) rfl ⟨by rw [HK2.out], L1, HP9.out⟩
def hel (K : Cp) (ad : BitVec 64) (sz : Int) : Bool := K.rv && (decide (K.ra = ad) && decide (K.rs = sz))
theorem VX (K : Cp) (ad : BitVec 64) (sz : Int) (w : World) : (Op.equalIn 10000 29 (.agg (rsc K.rv K.ra K.rs)) (.agg (rsc true ad sz))).run prog w = .ok (hel K ad sz) w := by
 obtain ⟨r, hr, hi⟩ := zX w 9998 K.rv true K.ra ad K.rs sz
 have e : r = hel K ad sz := by
  unfold hel
  cases hv : K.rv <;> cases r <;> simp_all
 rw [← e]
 exact hr
theorem zJ {S : St} {k : Wy} {z : Nat} {f : Option (BitVec 64 → BitVec 64)} (h : (MV S k z f).t.is = false) : (MV S k z f).t = tN := by
 cases f with
 | none =>
  simp only [MV] at h ⊢
  split at h
  ·rename_i q; rw [show (fbd S k z).is = true from q] at h; cases h
  ·rename_i q; rw [if_neg q]
 | some f =>
  simp only [MV] at h ⊢
  split at h
  ·rename_i q; rw [show (fbd S k z).is = true from q] at h; cases h
  ·rename_i q; rw [if_neg q]
theorem PL_tN {S : St} {k : Wy} {sz : Int} {f : Option (BitVec 64 → BitVec 64)} (h : (PL S k sz f).t.is = false) : (PL S k sz f).t = tN := by
 unfold PL at h ⊢
 by_cases h1 : sz = 1
 ·rw [if_pos h1] at h ⊢; exact zJ h
 rw [if_neg h1] at h ⊢
 by_cases h2 : sz = 2
 ·rw [if_pos h2] at h ⊢; exact zJ h
 rw [if_neg h2] at h ⊢
 by_cases h4 : sz = 4
 ·rw [if_pos h4] at h ⊢; exact zJ h
 rw [if_neg h4] at h ⊢
 by_cases h8 : sz = 8
 ·rw [if_pos h8] at h ⊢; exact zJ h
 rw [if_neg h8] at h
 cases h
theorem AT_tN {S : St} {k : Wy} {sz : Int} {f : Option (BitVec 64 → BitVec 64)} (h : (AT S k sz f).t.is = false) : (AT S k sz f).t = tN := by
 unfold AT at h ⊢
 split
 ·rename_i q; rw [if_pos q] at h; exact PL_tN h
 ·rename_i q; rw [if_neg q] at h; cases h
theorem NK {B : Nat} {L : Lay} {S : St} (w : World) (h : PB B L S w) (hs : Sok S) (hT : Tb w) (hB : 0 < B) (k : Cp) (ad : BitVec 64) (sz : Int) (v : BitVec 64) :
  Calls prog 105 #[.agg (cpc k), .pointer (some ⟨L.b, 0, none⟩), .int .u64 (n64 ad), .int .i64 sz, .int .u64 (n64 v)] w fun e w' => e = .returned (.tuple #[.bool (!(AT S (wS L.b (PR k) ad) sz (if hel (PR k) ad sz = true then some (fun _ => v) else none)).t.is && hel (PR k) ad sz), .agg (cpc (if (AT S (wS L.b (PR k) ad) sz (if hel (PR k) ad sz = true then some (fun _ => v) else none)).t.is = true then PR k else nores (PR k))), .agg (tpc (AT S (wS L.b (PR k) ad) sz (if hel (PR k) ad sz = true then some (fun _ => v) else none)).t)]) ∧ ∃ L', PSt B L w L' (AT S (wS L.b (PR k) ad) sz (if hel (PR k) ad sz = true then some (fun _ => v) else none)).S w' := by
 obtain ⟨W0, hW0, r0, r1, r2, b0, s0⟩ := jE w (cpc k) (cpc cz) (tpc tN) 31 31 42
 clear s0
 have hzt := bU
 have hzc := cC
 have HP0 : Hid (PSt B L w L S W0) := (PSt.refl h).post b0
 have hlo : ∀ g, w.heap.size ≤ g → ¬ L.own g := fun g hg e => by have := h.own_hi _ e; omega
 have HO0 : Hid (Own w L W0 w.heap.size (cpc k) 31) := ⟨r0, hlo _ (by omega), by omega⟩
 have HO1 : Hid (Own w L W0 (w.heap.size + 1) (cpc cz) 31) := ⟨r1, hlo _ (by omega), by omega⟩
 have HO2 : Hid (Own w L W0 (w.heap.size + 2) (tpc tN) 42) := ⟨r2, hlo _ (by omega), by omega⟩
 have HPR : Hid (∀ W, Calls prog 10 #[.agg (cpc k)] W fun e w' => e = .returned (.agg (cpc (PR k))) ∧ Below W.heap.size W w') := fun W => jF k W
 have HB0 := hid b0
 have HLG : Hid (∀ W, Calls prog 128 #[.agg (cpc (PR k)), .pointer (some ⟨L.b, 0, none⟩), .int .u64 (n64 ad)] W fun e w' => e = .returned (.agg (wyc (wS L.b (PR k) ad))) ∧ Below W.heap.size W w') := fun W => by
  have q := nR (PR k) L.b ad W
  rw [fR] at q
  exact q
 have HPL : Hid (∀ W M, Below w.heap.size w W → Mde B L W M (if hel (PR k) ad sz = true then some (fun _ => v) else none) → Calls prog 138 #[.agg (wyc (wS L.b (PR k) ad)), .int .i64 sz, M] W fun e w' => e = .returned (.tuple #[.int .u64 (n64 (AT S (wS L.b (PR k) ad) sz (if hel (PR k) ad sz = true then some (fun _ => v) else none)).old), .int .u64 (n64 (AT S (wS L.b (PR k) ad) sz (if hel (PR k) ad sz = true then some (fun _ => v) else none)).st), .agg (tpc (AT S (wS L.b (PR k) ad) sz (if hel (PR k) ad sz = true then some (fun _ => v) else none)).t)]) ∧ ∃ L', PSt B L W L' (AT S (wS L.b (PR k) ad) sz (if hel (PR k) ad sz = true then some (fun _ => v) else none)).S w') := fun W M hb hM => pM W (h.later hb) hs (hT.next hb) hB (wS L.b (PR k) ad) rfl sz M _ hM
 have HAL : Hid (∀ W, Calls prog 130 #[.int .u64 (n64 v)] W fun e w' => e = .returned (.func (.func 166) #[] #[.pointer (some ⟨W.heap.size, 0, none⟩)]) ∧ w' = W.alloc (.cells #[.int .u64 (n64 v)] 22)) := fun W => uV v W
 have HMA : Hid (∀ W g, Below w.heap.size w W → W.heap[g]? = some (.cells #[.int .u64 (n64 v)] 22 (0, 0)) → w.heap.size ≤ g → Mde B L W (.func (.func 166) #[] #[.pointer (some ⟨g, 0, none⟩)]) (some fun _ => v)) := fun W g hb hg hw => qH (h.later hb) v g hg (hlo g hw)
 have HTN : Hid ((AT S (wS L.b (PR k) ad) sz (if hel (PR k) ad sz = true then some (fun _ => v) else none)).t.is = false → (AT S (wS L.b (PR k) ad) sz (if hel (PR k) ad sz = true then some (fun _ => v) else none)).t = tN) := AT_tN
 generalize (AT S (wS L.b (PR k) ad) sz (if hel (PR k) ad sz = true then some (fun _ => v) else none)) = m at HPL HTN ⊢
 generalize wyc (wS L.b (PR k) ad) = wy at HPL HLG
 generalize PR k = K at HPR HLG HPL ⊢
 have heq := VX K ad sz
 have HHE : Hid (hel K ad sz = hel K ad sz) := rfl
 generalize hel K ad sz = hb at HPL heq ⊢
 obtain ⟨K2, hK2⟩ : ∃ K2, K2 = (if m.t.is = true then K else nores K) := ⟨_, rfl⟩
 obtain ⟨hd, hhd⟩ : ∃ hd, hd = (!m.t.is && hb) := ⟨_, rfl⟩
 have HSK : Hid (K2 = if m.t.is = true then K else nores K) := hK2
 have HHD := hid hhd
 rw [← hK2, ← hhd]
 clear hK2 hhd h hs hT r0 r1 r2 b0 HHE
 go_enter func105, ntmps105
 go_upto_region 1 with fail
 clear hW0
 go_upto_region 2 with (first | (refine wpList_load_row (by rfl) _ _ (by rfl) _ (by rfl) 31 _ (0, 0) _ HO0.out.r underlying31 (by rfl) (aB _) ?_) | (go_at_call 10; refine (HPR.out _).mono ?_; rintro e w1 ⟨rfl, hb1⟩; have HB1 := hid hb1; clear hb1) | (refine aA (by rfl) _ _ _ (by rfl) (by rfl) _ _ _ (by rfl) (by rfl) (HO0.out.post HB1.out).r (aB _) (by rw [aE, aE]) (aO _) ?_))
 refine bT (motive := fun W => Code.wp _ _ _ _ W) (Q := fun W => Own w L W w.heap.size (cpc K) 31 ∧ Own w L W (w.heap.size + 1) (cpc cz) 31 ∧ Own w L W (w.heap.size + 2) (tpc tN) 42 ∧ PSt B L w L S W ∧ Below w.heap.size w W)
  ⟨⟨ZqW _ _ _ _ _ _ (HO0.out.post HB1.out).r, HO0.out.n, HO0.out.ge⟩, ⟨(setRow_other _ _ _ _ (by omega)).trans (HO1.out.post HB1.out).r, HO1.out.n, HO1.out.ge⟩, ⟨(setRow_other _ _ _ _ (by omega)).trans (HO2.out.post HB1.out).r, HO2.out.n, HO2.out.ge⟩, (HP0.out.post HB1.out).row HO0.out.n HO0.out.ge _, aW (HB0.out.trans (HB1.out.mono HB0.out.size)) (ZqE _) _⟩ ?_
 clear HO0 HO1 HO2 HP0 HB0 HB1 HPR
 rintro W2 ⟨o0, o1, o2, p2, b2⟩
 have HO0 := hid o0
 have HO1 := hid o1
 have HO2 := hid o2
 have HP2 := hid p2
 have HB2 := hid b2
 clear o0 o1 o2 p2 b2
 have HRE : Hid (∀ j v, (rsc K.rv K.ra K.rs)[j]? = some v → W2.cell? ⟨w.heap.size, 79 + j, none⟩ = some v) := HO0.out.r.res
 go_upto_region 3 with (first | (refine aY (by rfl) _ _ (by rfl) w.heap.size 79 (by rfl) (rsc K.rv K.ra K.rs) _ HRE.out underlying29 (by rfl) (cK _ _ _) ?_) | (refine aC (by rfl) 29 _ (by rfl) (rsc true ad sz) (by kernel_rfl) ?_))
 clear HRE heq
 cases hb with
 | true =>
  go_upto_region 6 with (go_at_call 130; refine (HAL.out _).mono ?_; rintro e w3 ⟨rfl, hw3⟩; have HW3 := hid hw3; have HB3 : Hid (Below W2.heap.size W2 w3) := (by unfold Hid; rw [hw3]; exact aG _ _); clear hw3)
  have HMD : Hid (∀ W, Below w3.heap.size w3 W → Mde B L W (.func (.func 166) #[] #[.pointer (some ⟨W2.heap.size, 0, none⟩)]) (if (true : Bool) = true then some (fun _ => v) else none)) := fun W hw => by
   rw [if_pos rfl]
   refine HMA.out W W2.heap.size ((HB2.out.trans (HB3.out.mono HB2.out.size)).trans (hw.mono (ZqO HB2.out.size HB3.out.size))) ?_ HB2.out.size
   have e3 : w3.heap[W2.heap.size]? = some (.cells #[.int .u64 (n64 v)] 22 (0, 0)) := by rw [HW3.out]; exact heap_alloc_new W2 _
   exact Row.later e3 hw (Row.lt e3)
  clear HW3 HMA HAL
  generalize Value.func (.func 166) #[] #[.pointer (some ⟨W2.heap.size, 0, none⟩)] = M at HMD ⊢
  go_upto_region 7 with (first | (refine wpList_load_row (by rfl) _ _ (by rfl) _ (by rfl) 31 _ (0, 0) _ (HO0.out.post HB3.out).r underlying31 (by rfl) (aB _) ?_) | (go_at_call 128; refine (HLG.out _).mono ?_; rintro e w4 ⟨rfl, hb4⟩; have HB4 := hid hb4; clear hb4) | (go_at_call 138; refine (HPL.out w4 M (HB2.out.trans ((HB3.out.trans (HB4.out.mono HB3.out.size)).mono HB2.out.size)) (HMD.out w4 HB4.out)).mono ?_; rintro e w5 ⟨rfl, L1, hp5⟩; have HP5 := hid hp5; clear hp5) | (refine aK (by rfl) 42 _ _ (by rfl) (by rfl) (tpc tN) (tpc m.t) (by rfl) (by rfl) (aD _) (bC _ _) (aN _) ?_))
  refine bT (motive := fun W => Code.wp _ _ _ _ W) (Q := fun W => Own w L1 W w.heap.size (cpc K) 31 ∧ Own w L1 W (w.heap.size + 1) (cpc cz) 31 ∧ Own w L1 W (w.heap.size + 2) (tpc tN) 42 ∧ Own w L1 W w5.heap.size (tpc m.t) 42 ∧ PSt B L w L1 m.S W) ⟨(((HO0.out.post HB3.out).post HB4.out).bus HP5.out).post (aG _ _), (((HO1.out.post HB3.out).post HB4.out).bus HP5.out).post (aG _ _), (((HO2.out.post HB3.out).post HB4.out).bus HP5.out).post (aG _ _), Own.new (((HP2.out.post HB3.out).post HB4.out).trans HP5.out) _ _, (((HP2.out.post HB3.out).post HB4.out).trans HP5.out).al _⟩ ?_
  have HGT : Hid (w.heap.size + 2 < w5.heap.size) := by have := HP5.out.x.size; have := HB4.out.size; have := HB3.out.size; have := HO2.out.r.lt; unfold Hid; omega
  clear HP2 HB2 HB3 HB4 HP5 HLG HPL HMD
  generalize w5.heap.size = gt at HGT ⊢
  clear HO0 HO1 HO2
  rintro W6 ⟨o0, o1, o2, o3, p4⟩
  have HO0 := hid o0
  have HO1 := hid o1
  have HO2 := hid o2
  have HO3 := hid o3
  have HP4 := hid p4
  clear o0 o1 o2 o3 p4
  have ct : W6.cell? ⟨gt, 0, none⟩ = some (.bool m.t.is) := HO3.out.r.cell 0
  obtain ⟨q, hq⟩ : ∃ q, q = m.t.is := ⟨_, rfl⟩
  rw [← hq] at ct HSK HTN HHD
  clear hq
  cases q with
  | true =>
   have HK2 : Hid (K2 = K) := by unfold Hid; rw [HSK.out, if_pos rfl]
   have HH2 : Hid (hd = false) := HHD.out
   clear HSK HHD HTN
   go_upto_region 8 with fail
   have hrw : Hid (∀ w9, Exc (fun j => j = w.heap.size + 1 ∨ j = w.heap.size + 2) W6 w9 → Row w9 w.heap.size (cpc K) 31 ∧ Row w9 gt (tpc m.t) 42) := fun w9 hx => ⟨(hx.block _ HO0.out.r.lt (fun e => by rcases e with e | e <;> omega)).trans HO0.out.r, (hx.block _ HO3.out.r.lt (fun e => by have := HGT.out; rcases e with e | e <;> omega)).trans HO3.out.r⟩
   have hS0 : Exc (fun j => j = w.heap.size + 1 ∨ j = w.heap.size + 2) W6 W6.drew := ⟨rfl, rfl, rfl, ZqE _, fun _ _ _ => rfl⟩
   have H1 : Row W6.drew (w.heap.size + 1) (cpc cz) 31 := HO1.out.r
   have H2 : Row (W6.drew.setRow (w.heap.size + 1) (cpc K)) (w.heap.size + 2) (tpc tN) 42 := (setRow_other _ _ _ _ (by omega)).trans HO2.out.r
   have hS1 : Exc (fun j => j = w.heap.size + 1 ∨ j = w.heap.size + 2) W6 (W6.drew.setRow (w.heap.size + 1) (cpc K)) := ⟨rfl, rfl, rfl, by simp, fun k hk hn => setRow_other _ _ _ _ (fun e => hn (.inl e))⟩
   have hS2 : Exc (fun j => j = w.heap.size + 1 ∨ j = w.heap.size + 2) W6 ((W6.drew.setRow (w.heap.size + 1) (cpc K)).setRow (w.heap.size + 2) (tpc m.t)) := ⟨rfl, rfl, rfl, by simp, fun k hk hn => (setRow_other _ _ _ _ (fun e => hn (.inr e))).trans (setRow_other _ _ _ _ (fun e => hn (.inl e)))⟩
   have HP9 : Hid (PSt B L w L1 m.S ((W6.drew.setRow (w.heap.size + 1) (cpc K)).setRow (w.heap.size + 2) (tpc m.t))) := ((HP4.out.post (ZqD _ _).drew).row HO1.out.n HO1.out.ge _).row HO2.out.n HO2.out.ge _
   have HR1 : Hid (Row ((W6.drew.setRow (w.heap.size + 1) (cpc K)).setRow (w.heap.size + 2) (tpc m.t)) (w.heap.size + 1) (cpc K) 31) := (setRow_other _ _ _ _ (by omega)).trans (ZqW _ _ _ _ _ _ H1)
   have HR2 : Hid (Row ((W6.drew.setRow (w.heap.size + 1) (cpc K)).setRow (w.heap.size + 2) (tpc m.t)) (w.heap.size + 2) (tpc m.t) 42) := ZqW _ _ _ _ _ _ H2
   refine wp_region_held (S := fun w' => Exc (fun j => j = w.heap.size + 1 ∨ j = w.heap.size + 2) W6 w') (by kernel_rfl) ?_
   change wpAnyH _ _ _ _ _ _ _ _ W6.drew
   refine aF 0 (some 42) (v := .agg (cpc K)) rfl (by kernel_rfl) (by kernel_rfl) (by kernel_rfl) (by kernel_rfl) (fun _ _ _ h => h) (Or.inl ⟨by rfl, fun w9 hSw => ?_⟩) hS0 ?_
   ·have q := bQ (P := prog) 31 (w.heap.size) (cpc K) _ w9 (hrw.out w9 hSw).1 underlying31 (by rfl) (aB _)
    unfold execOp
    exact q
   try simp only [Act.put, ZqA, ZqB, ZqC]
   refine aF 1 (some 43) (v := .agg (tpc m.t)) rfl (by kernel_rfl) (by kernel_rfl) (by kernel_rfl) (by kernel_rfl) (fun _ _ _ h => h) (Or.inl ⟨by rfl, fun w9 hSw => ?_⟩) hS0 ?_
   ·have q := bQ (P := prog) 42 (gt) (tpc m.t) _ w9 (hrw.out w9 hSw).2 underlying42 (by rfl) (aD _)
    unfold execOp
    exact q
   try simp only [Act.put, ZqA, ZqB, ZqC]
   refine aF 2 (some 10) (v := .bool false) rfl (by kernel_rfl) (by kernel_rfl) (by kernel_rfl) (by kernel_rfl) (fun _ _ _ h => h) (Or.inl ⟨by rfl, fun w9 hSw => by go_simp⟩) hS0 ?_
   try simp only [Act.put, ZqA, ZqB, ZqC]
   refine aV 3 31 (.tmp 11) (.tmp 42) (by kernel_rfl) (by kernel_rfl) (w.heap.size + 1) (cpc cz) (cpc K) (by rfl) (by rfl) H1 (aB _) (by rw [aE, aE]) (aO _) hS1 ?_
   try simp only [Act.put, ZqA, ZqB, ZqC]
   refine aV 4 42 (.tmp 12) (.tmp 43) (by kernel_rfl) (by kernel_rfl) (w.heap.size + 2) (tpc tN) (tpc m.t) (by rfl) (by rfl) H2 (aD _) (bC _ _) (aN _) hS2 ?_
   try simp only [Act.put, ZqA, ZqB, ZqC]
   refine wpAnyH_done (by kernel_rfl) ?_ _
   go_wp2_with fail
   refine ZqH (v := .tuple #[.bool false, .agg (cpc K), .agg (tpc m.t)]) (fN _ _ (w.heap.size + 1) (w.heap.size + 2) 31 42 _ _ (0, 0) (0, 0) _ _ _ results105 (by rfl) (by rfl) (by rfl) HR1.out HR2.out underlying31 (by rfl) (aB _) underlying42 (by rfl) (aD _)) rfl ⟨by rw [HK2.out, HH2.out], L1, HP9.out⟩
  | false =>
   have HK2 : Hid (K2 = nores K) := by unfold Hid; rw [HSK.out, if_neg (by decide)]
   have HH2 : Hid (hd = true) := HHD.out
   have HT2 : Hid (m.t = tN) := HTN.out rfl
   clear HSK HHD HTN
   have HTH : Hid (W6.there w.heap.size 79 (rsc false 0#64 0).size) := HO0.out.r.there (by rw [aE]; show 79 + 3 ≤ 82; omega)
   go_upto_region 10 with (first | (refine aC (by rfl) 29 _ (by rfl) (rsc false 0#64 0) (by kernel_rfl) ?_) | (refine aX (by rfl) _ _ _ (by rfl) (by rfl) w.heap.size 79 _ (by rfl) (by rfl) HTH.out (cK _ _ _) (fF _ _ _) ?_))
   refine bT (motive := fun W => Code.wp _ _ _ _ W) (Q := fun W => Own w L1 W w.heap.size (cpc (nores K)) 31 ∧ Own w L1 W (w.heap.size + 1) (cpc cz) 31 ∧ Own w L1 W (w.heap.size + 2) (tpc tN) 42 ∧ Own w L1 W gt (tpc m.t) 42 ∧ PSt B L w L1 m.S W) ⟨⟨by have q := HO0.out.r.lay (rsc false 0#64 0).toList 79; rw [show (rsc false 0#64 0).toList = [.bool false, .int .u64 (n64 0#64), .int .i64 0] from rfl, iP] at q; exact q, HO0.out.n, HO0.out.ge⟩, ⟨HO1.out.r.lays (by omega) _ _, HO1.out.n, HO1.out.ge⟩, ⟨HO2.out.r.lays (by omega) _ _, HO2.out.n, HO2.out.ge⟩, ⟨HO3.out.r.lays (by have := HGT.out; omega) _ _, HO3.out.n, HO3.out.ge⟩, PSt.lay HO0.out.n HO0.out.ge _ _ HP4.out⟩ ?_
   clear HP4 HTH ct HO3
   clear HO0 HO1 HO2
   rintro W8 ⟨o0, o1, o2, o3, p4⟩
   have HO0 := hid o0
   have HO1 := hid o1
   have HO2 := hid o2
   have HO3 := hid o3
   have HP4 := hid p4
   clear o0 o1 o2 o3 p4
   have hrw : Hid (∀ w9, Exc (fun j => j = w.heap.size + 1 ∨ j = w.heap.size + 2) W8 w9 → Row w9 w.heap.size (cpc (nores K)) 31 ∧ Row w9 gt (tpc m.t) 42) := fun w9 hx => ⟨(hx.block _ HO0.out.r.lt (fun e => by rcases e with e | e <;> omega)).trans HO0.out.r, (hx.block _ HO3.out.r.lt (fun e => by have := HGT.out; rcases e with e | e <;> omega)).trans HO3.out.r⟩
   have hS0 : Exc (fun j => j = w.heap.size + 1 ∨ j = w.heap.size + 2) W8 W8.drew := ⟨rfl, rfl, rfl, ZqE _, fun _ _ _ => rfl⟩
   have H1 : Row W8.drew (w.heap.size + 1) (cpc cz) 31 := HO1.out.r
   have H2 : Row (W8.drew.setRow (w.heap.size + 1) (cpc (nores K))) (w.heap.size + 2) (tpc tN) 42 := (setRow_other _ _ _ _ (by omega)).trans HO2.out.r
   have hS1 : Exc (fun j => j = w.heap.size + 1 ∨ j = w.heap.size + 2) W8 (W8.drew.setRow (w.heap.size + 1) (cpc (nores K))) := ⟨rfl, rfl, rfl, by simp, fun k hk hn => setRow_other _ _ _ _ (fun e => hn (.inl e))⟩
   have hS2 : Exc (fun j => j = w.heap.size + 1 ∨ j = w.heap.size + 2) W8 ((W8.drew.setRow (w.heap.size + 1) (cpc (nores K))).setRow (w.heap.size + 2) (tpc m.t)) := ⟨rfl, rfl, rfl, by simp, fun k hk hn => (setRow_other _ _ _ _ (fun e => hn (.inr e))).trans (setRow_other _ _ _ _ (fun e => hn (.inl e)))⟩
   have HP9 : Hid (PSt B L w L1 m.S ((W8.drew.setRow (w.heap.size + 1) (cpc (nores K))).setRow (w.heap.size + 2) (tpc m.t))) := ((HP4.out.post (ZqD _ _).drew).row HO1.out.n HO1.out.ge _).row HO2.out.n HO2.out.ge _
   have HR1 : Hid (Row ((W8.drew.setRow (w.heap.size + 1) (cpc (nores K))).setRow (w.heap.size + 2) (tpc m.t)) (w.heap.size + 1) (cpc (nores K)) 31) := (setRow_other _ _ _ _ (by omega)).trans (ZqW _ _ _ _ _ _ H1)
   have HR2 : Hid (Row ((W8.drew.setRow (w.heap.size + 1) (cpc (nores K))).setRow (w.heap.size + 2) (tpc m.t)) (w.heap.size + 2) (tpc m.t) 42) := ZqW _ _ _ _ _ _ H2
   refine wp_region_held (S := fun w' => Exc (fun j => j = w.heap.size + 1 ∨ j = w.heap.size + 2) W8 w') (by kernel_rfl) ?_
   change wpAnyH _ _ _ _ _ _ _ _ W8.drew
   refine aF 0 (some 46) (v := .bool true) rfl (by kernel_rfl) (by kernel_rfl) (by kernel_rfl) (by kernel_rfl) (fun _ _ _ h => h) (Or.inl ⟨by rfl, fun w9 hSw => by go_simp⟩) hS0 ?_
   try simp only [Act.put, ZqA, ZqB, ZqC]
   refine aF 1 (some 47) (v := .agg (cpc (nores K))) rfl (by kernel_rfl) (by kernel_rfl) (by kernel_rfl) (by kernel_rfl) (fun _ _ _ h => h) (Or.inl ⟨by rfl, fun w9 hSw => ?_⟩) hS0 ?_
   ·have q := bQ (P := prog) 31 (w.heap.size) (cpc (nores K)) _ w9 (hrw.out w9 hSw).1 underlying31 (by rfl) (aB _)
    unfold execOp
    exact q
   try simp only [Act.put, ZqA, ZqB, ZqC]
   refine aF 2 (some 48) (v := .agg (tpc m.t)) rfl (by kernel_rfl) (by kernel_rfl) (by kernel_rfl) (by kernel_rfl) (fun _ _ _ h => h) (Or.inl ⟨by rfl, fun w9 hSw => by rw [HT2.out]; exact gO 42 _ (by rfl) (tpc tN) (by kernel_rfl) w9⟩) hS0 ?_
   try simp only [Act.put, ZqA, ZqB, ZqC]
   refine aF 3 (some 10) (v := .bool true) rfl (by kernel_rfl) (by kernel_rfl) (by kernel_rfl) (by kernel_rfl) (fun _ _ _ h => h) (Or.inl ⟨by rfl, fun w9 hSw => by go_simp⟩) hS0 ?_
   try simp only [Act.put, ZqA, ZqB, ZqC]
   refine aV 4 31 (.tmp 11) (.tmp 47) (by kernel_rfl) (by kernel_rfl) (w.heap.size + 1) (cpc cz) (cpc (nores K)) (by rfl) (by rfl) H1 (aB _) (by rw [aE, aE]) (aO _) hS1 ?_
   try simp only [Act.put, ZqA, ZqB, ZqC]
   refine aV 5 42 (.tmp 12) (.tmp 48) (by kernel_rfl) (by kernel_rfl) (w.heap.size + 2) (tpc tN) (tpc m.t) (by rfl) (by rfl) H2 (aD _) (bC _ _) (aN _) hS2 ?_
   try simp only [Act.put, ZqA, ZqB, ZqC]
   refine wpAnyH_done (by kernel_rfl) ?_ _
   go_wp2_with fail
   refine ZqH (v := .tuple #[.bool true, .agg (cpc (nores K)), .agg (tpc m.t)]) (fN _ _ (w.heap.size + 1) (w.heap.size + 2) 31 42 _ _ (0, 0) (0, 0) _ _ _ results105 (by rfl) (by rfl) (by rfl) HR1.out HR2.out underlying31 (by rfl) (aB _) underlying42 (by rfl) (aD _)) rfl ⟨by rw [HK2.out, HH2.out], L1, HP9.out⟩
 | false =>
  go_upto_region 6 with fail
  have HMD : Hid (∀ W, Below W2.heap.size W2 W → Mde B L W .nilFunc (if (false : Bool) = true then some (fun _ => v) else none)) := fun W hw => by
   rw [if_neg (by decide)]
   exact .nil
  have HB3 : Hid (Below W2.heap.size W2 W2) := ZqD _ _
  clear HMA HAL
  go_upto_region 7 with (first | (refine wpList_load_row (by rfl) _ _ (by rfl) _ (by rfl) 31 _ (0, 0) _ (HO0.out.post HB3.out).r underlying31 (by rfl) (aB _) ?_) | (go_at_call 128; refine (HLG.out _).mono ?_; rintro e w4 ⟨rfl, hb4⟩; have HB4 := hid hb4; clear hb4) | (go_at_call 138; refine (HPL.out w4 .nilFunc (HB2.out.trans ((HB3.out.trans (HB4.out.mono HB3.out.size)).mono HB2.out.size)) (HMD.out w4 HB4.out)).mono ?_; rintro e w5 ⟨rfl, L1, hp5⟩; have HP5 := hid hp5; clear hp5) | (refine aK (by rfl) 42 _ _ (by rfl) (by rfl) (tpc tN) (tpc m.t) (by rfl) (by rfl) (aD _) (bC _ _) (aN _) ?_))
  refine bT (motive := fun W => Code.wp _ _ _ _ W) (Q := fun W => Own w L1 W w.heap.size (cpc K) 31 ∧ Own w L1 W (w.heap.size + 1) (cpc cz) 31 ∧ Own w L1 W (w.heap.size + 2) (tpc tN) 42 ∧ Own w L1 W w5.heap.size (tpc m.t) 42 ∧ PSt B L w L1 m.S W) ⟨(((HO0.out.post HB3.out).post HB4.out).bus HP5.out).post (aG _ _), (((HO1.out.post HB3.out).post HB4.out).bus HP5.out).post (aG _ _), (((HO2.out.post HB3.out).post HB4.out).bus HP5.out).post (aG _ _), Own.new (((HP2.out.post HB3.out).post HB4.out).trans HP5.out) _ _, (((HP2.out.post HB3.out).post HB4.out).trans HP5.out).al _⟩ ?_
  have HGT : Hid (w.heap.size + 2 < w5.heap.size) := by have := HP5.out.x.size; have := HB4.out.size; have := HB3.out.size; have := HO2.out.r.lt; unfold Hid; omega
  clear HP2 HB2 HB3 HB4 HP5 HLG HPL HMD
  generalize w5.heap.size = gt at HGT ⊢
  clear HO0 HO1 HO2
  rintro W6 ⟨o0, o1, o2, o3, p4⟩
  have HO0 := hid o0
  have HO1 := hid o1
  have HO2 := hid o2
  have HO3 := hid o3
  have HP4 := hid p4
  clear o0 o1 o2 o3 p4
  have ct : W6.cell? ⟨gt, 0, none⟩ = some (.bool m.t.is) := HO3.out.r.cell 0
  obtain ⟨q, hq⟩ : ∃ q, q = m.t.is := ⟨_, rfl⟩
  rw [← hq] at ct HSK HTN HHD
  clear hq
  cases q with
  | true =>
   have HK2 : Hid (K2 = K) := by unfold Hid; rw [HSK.out, if_pos rfl]
   have HH2 : Hid (hd = false) := HHD.out
   clear HSK HHD HTN
   go_upto_region 8 with fail
   have hrw : Hid (∀ w9, Exc (fun j => j = w.heap.size + 1 ∨ j = w.heap.size + 2) W6 w9 → Row w9 w.heap.size (cpc K) 31 ∧ Row w9 gt (tpc m.t) 42) := fun w9 hx => ⟨(hx.block _ HO0.out.r.lt (fun e => by rcases e with e | e <;> omega)).trans HO0.out.r, (hx.block _ HO3.out.r.lt (fun e => by have := HGT.out; rcases e with e | e <;> omega)).trans HO3.out.r⟩
   have hS0 : Exc (fun j => j = w.heap.size + 1 ∨ j = w.heap.size + 2) W6 W6.drew := ⟨rfl, rfl, rfl, ZqE _, fun _ _ _ => rfl⟩
   have H1 : Row W6.drew (w.heap.size + 1) (cpc cz) 31 := HO1.out.r
   have H2 : Row (W6.drew.setRow (w.heap.size + 1) (cpc K)) (w.heap.size + 2) (tpc tN) 42 := (setRow_other _ _ _ _ (by omega)).trans HO2.out.r
   have hS1 : Exc (fun j => j = w.heap.size + 1 ∨ j = w.heap.size + 2) W6 (W6.drew.setRow (w.heap.size + 1) (cpc K)) := ⟨rfl, rfl, rfl, by simp, fun k hk hn => setRow_other _ _ _ _ (fun e => hn (.inl e))⟩
   have hS2 : Exc (fun j => j = w.heap.size + 1 ∨ j = w.heap.size + 2) W6 ((W6.drew.setRow (w.heap.size + 1) (cpc K)).setRow (w.heap.size + 2) (tpc m.t)) := ⟨rfl, rfl, rfl, by simp, fun k hk hn => (setRow_other _ _ _ _ (fun e => hn (.inr e))).trans (setRow_other _ _ _ _ (fun e => hn (.inl e)))⟩
   have HP9 : Hid (PSt B L w L1 m.S ((W6.drew.setRow (w.heap.size + 1) (cpc K)).setRow (w.heap.size + 2) (tpc m.t))) := ((HP4.out.post (ZqD _ _).drew).row HO1.out.n HO1.out.ge _).row HO2.out.n HO2.out.ge _
   have HR1 : Hid (Row ((W6.drew.setRow (w.heap.size + 1) (cpc K)).setRow (w.heap.size + 2) (tpc m.t)) (w.heap.size + 1) (cpc K) 31) := (setRow_other _ _ _ _ (by omega)).trans (ZqW _ _ _ _ _ _ H1)
   have HR2 : Hid (Row ((W6.drew.setRow (w.heap.size + 1) (cpc K)).setRow (w.heap.size + 2) (tpc m.t)) (w.heap.size + 2) (tpc m.t) 42) := ZqW _ _ _ _ _ _ H2
   refine wp_region_held (S := fun w' => Exc (fun j => j = w.heap.size + 1 ∨ j = w.heap.size + 2) W6 w') (by kernel_rfl) ?_
   change wpAnyH _ _ _ _ _ _ _ _ W6.drew
   refine aF 0 (some 42) (v := .agg (cpc K)) rfl (by kernel_rfl) (by kernel_rfl) (by kernel_rfl) (by kernel_rfl) (fun _ _ _ h => h) (Or.inl ⟨by rfl, fun w9 hSw => ?_⟩) hS0 ?_
   ·have q := bQ (P := prog) 31 (w.heap.size) (cpc K) _ w9 (hrw.out w9 hSw).1 underlying31 (by rfl) (aB _)
    unfold execOp
    exact q
   try simp only [Act.put, ZqA, ZqB, ZqC]
   refine aF 1 (some 43) (v := .agg (tpc m.t)) rfl (by kernel_rfl) (by kernel_rfl) (by kernel_rfl) (by kernel_rfl) (fun _ _ _ h => h) (Or.inl ⟨by rfl, fun w9 hSw => ?_⟩) hS0 ?_
   ·have q := bQ (P := prog) 42 (gt) (tpc m.t) _ w9 (hrw.out w9 hSw).2 underlying42 (by rfl) (aD _)
    unfold execOp
    exact q
   try simp only [Act.put, ZqA, ZqB, ZqC]
   refine aF 2 (some 10) (v := .bool false) rfl (by kernel_rfl) (by kernel_rfl) (by kernel_rfl) (by kernel_rfl) (fun _ _ _ h => h) (Or.inl ⟨by rfl, fun w9 hSw => by go_simp⟩) hS0 ?_
   try simp only [Act.put, ZqA, ZqB, ZqC]
   refine aV 3 31 (.tmp 11) (.tmp 42) (by kernel_rfl) (by kernel_rfl) (w.heap.size + 1) (cpc cz) (cpc K) (by rfl) (by rfl) H1 (aB _) (by rw [aE, aE]) (aO _) hS1 ?_
   try simp only [Act.put, ZqA, ZqB, ZqC]
   refine aV 4 42 (.tmp 12) (.tmp 43) (by kernel_rfl) (by kernel_rfl) (w.heap.size + 2) (tpc tN) (tpc m.t) (by rfl) (by rfl) H2 (aD _) (bC _ _) (aN _) hS2 ?_
   try simp only [Act.put, ZqA, ZqB, ZqC]
   refine wpAnyH_done (by kernel_rfl) ?_ _
   go_wp2_with fail
   refine ZqH (v := .tuple #[.bool false, .agg (cpc K), .agg (tpc m.t)]) (fN _ _ (w.heap.size + 1) (w.heap.size + 2) 31 42 _ _ (0, 0) (0, 0) _ _ _ results105 (by rfl) (by rfl) (by rfl) HR1.out HR2.out underlying31 (by rfl) (aB _) underlying42 (by rfl) (aD _)) rfl ⟨by rw [HK2.out, HH2.out], L1, HP9.out⟩
  | false =>
   have HK2 : Hid (K2 = nores K) := by unfold Hid; rw [HSK.out, if_neg (by decide)]
   have HH2 : Hid (hd = false) := HHD.out
   have HT2 : Hid (m.t = tN) := HTN.out rfl
   clear HSK HHD HTN
   have HTH : Hid (W6.there w.heap.size 79 (rsc false 0#64 0).size) := HO0.out.r.there (by rw [aE]; show 79 + 3 ≤ 82; omega)
   go_upto_region 10 with (first | (refine aC (by rfl) 29 _ (by rfl) (rsc false 0#64 0) (by kernel_rfl) ?_) | (refine aX (by rfl) _ _ _ (by rfl) (by rfl) w.heap.size 79 _ (by rfl) (by rfl) HTH.out (cK _ _ _) (fF _ _ _) ?_))
   refine bT (motive := fun W => Code.wp _ _ _ _ W) (Q := fun W => Own w L1 W w.heap.size (cpc (nores K)) 31 ∧ Own w L1 W (w.heap.size + 1) (cpc cz) 31 ∧ Own w L1 W (w.heap.size + 2) (tpc tN) 42 ∧ Own w L1 W gt (tpc m.t) 42 ∧ PSt B L w L1 m.S W) ⟨⟨by have q := HO0.out.r.lay (rsc false 0#64 0).toList 79; rw [show (rsc false 0#64 0).toList = [.bool false, .int .u64 (n64 0#64), .int .i64 0] from rfl, iP] at q; exact q, HO0.out.n, HO0.out.ge⟩, ⟨HO1.out.r.lays (by omega) _ _, HO1.out.n, HO1.out.ge⟩, ⟨HO2.out.r.lays (by omega) _ _, HO2.out.n, HO2.out.ge⟩, ⟨HO3.out.r.lays (by have := HGT.out; omega) _ _, HO3.out.n, HO3.out.ge⟩, PSt.lay HO0.out.n HO0.out.ge _ _ HP4.out⟩ ?_
   clear HP4 HTH ct HO3
   clear HO0 HO1 HO2
   rintro W8 ⟨o0, o1, o2, o3, p4⟩
   have HO0 := hid o0
   have HO1 := hid o1
   have HO2 := hid o2
   have HO3 := hid o3
   have HP4 := hid p4
   clear o0 o1 o2 o3 p4
   have hrw : Hid (∀ w9, Exc (fun j => j = w.heap.size + 1 ∨ j = w.heap.size + 2) W8 w9 → Row w9 w.heap.size (cpc (nores K)) 31 ∧ Row w9 gt (tpc m.t) 42) := fun w9 hx => ⟨(hx.block _ HO0.out.r.lt (fun e => by rcases e with e | e <;> omega)).trans HO0.out.r, (hx.block _ HO3.out.r.lt (fun e => by have := HGT.out; rcases e with e | e <;> omega)).trans HO3.out.r⟩
   have hS0 : Exc (fun j => j = w.heap.size + 1 ∨ j = w.heap.size + 2) W8 W8.drew := ⟨rfl, rfl, rfl, ZqE _, fun _ _ _ => rfl⟩
   have H1 : Row W8.drew (w.heap.size + 1) (cpc cz) 31 := HO1.out.r
   have H2 : Row (W8.drew.setRow (w.heap.size + 1) (cpc (nores K))) (w.heap.size + 2) (tpc tN) 42 := (setRow_other _ _ _ _ (by omega)).trans HO2.out.r
   have hS1 : Exc (fun j => j = w.heap.size + 1 ∨ j = w.heap.size + 2) W8 (W8.drew.setRow (w.heap.size + 1) (cpc (nores K))) := ⟨rfl, rfl, rfl, by simp, fun k hk hn => setRow_other _ _ _ _ (fun e => hn (.inl e))⟩
   have hS2 : Exc (fun j => j = w.heap.size + 1 ∨ j = w.heap.size + 2) W8 ((W8.drew.setRow (w.heap.size + 1) (cpc (nores K))).setRow (w.heap.size + 2) (tpc m.t)) := ⟨rfl, rfl, rfl, by simp, fun k hk hn => (setRow_other _ _ _ _ (fun e => hn (.inr e))).trans (setRow_other _ _ _ _ (fun e => hn (.inl e)))⟩
   have HP9 : Hid (PSt B L w L1 m.S ((W8.drew.setRow (w.heap.size + 1) (cpc (nores K))).setRow (w.heap.size + 2) (tpc m.t))) := ((HP4.out.post (ZqD _ _).drew).row HO1.out.n HO1.out.ge _).row HO2.out.n HO2.out.ge _
   have HR1 : Hid (Row ((W8.drew.setRow (w.heap.size + 1) (cpc (nores K))).setRow (w.heap.size + 2) (tpc m.t)) (w.heap.size + 1) (cpc (nores K)) 31) := (setRow_other _ _ _ _ (by omega)).trans (ZqW _ _ _ _ _ _ H1)
   have HR2 : Hid (Row ((W8.drew.setRow (w.heap.size + 1) (cpc (nores K))).setRow (w.heap.size + 2) (tpc m.t)) (w.heap.size + 2) (tpc m.t) 42) := ZqW _ _ _ _ _ _ H2
   refine wp_region_held (S := fun w' => Exc (fun j => j = w.heap.size + 1 ∨ j = w.heap.size + 2) W8 w') (by kernel_rfl) ?_
   change wpAnyH _ _ _ _ _ _ _ _ W8.drew
   refine aF 0 (some 46) (v := .bool false) rfl (by kernel_rfl) (by kernel_rfl) (by kernel_rfl) (by kernel_rfl) (fun _ _ _ h => h) (Or.inl ⟨by rfl, fun w9 hSw => by go_simp⟩) hS0 ?_
   try simp only [Act.put, ZqA, ZqB, ZqC]
   refine aF 1 (some 47) (v := .agg (cpc (nores K))) rfl (by kernel_rfl) (by kernel_rfl) (by kernel_rfl) (by kernel_rfl) (fun _ _ _ h => h) (Or.inl ⟨by rfl, fun w9 hSw => ?_⟩) hS0 ?_
   ·have q := bQ (P := prog) 31 (w.heap.size) (cpc (nores K)) _ w9 (hrw.out w9 hSw).1 underlying31 (by rfl) (aB _)
    unfold execOp
    exact q
   try simp only [Act.put, ZqA, ZqB, ZqC]
   refine aF 2 (some 48) (v := .agg (tpc m.t)) rfl (by kernel_rfl) (by kernel_rfl) (by kernel_rfl) (by kernel_rfl) (fun _ _ _ h => h) (Or.inl ⟨by rfl, fun w9 hSw => by rw [HT2.out]; exact gO 42 _ (by rfl) (tpc tN) (by kernel_rfl) w9⟩) hS0 ?_
   try simp only [Act.put, ZqA, ZqB, ZqC]
   refine aF 3 (some 10) (v := .bool false) rfl (by kernel_rfl) (by kernel_rfl) (by kernel_rfl) (by kernel_rfl) (fun _ _ _ h => h) (Or.inl ⟨by rfl, fun w9 hSw => by go_simp⟩) hS0 ?_
   try simp only [Act.put, ZqA, ZqB, ZqC]
   refine aV 4 31 (.tmp 11) (.tmp 47) (by kernel_rfl) (by kernel_rfl) (w.heap.size + 1) (cpc cz) (cpc (nores K)) (by rfl) (by rfl) H1 (aB _) (by rw [aE, aE]) (aO _) hS1 ?_
   try simp only [Act.put, ZqA, ZqB, ZqC]
   refine aV 5 42 (.tmp 12) (.tmp 48) (by kernel_rfl) (by kernel_rfl) (w.heap.size + 2) (tpc tN) (tpc m.t) (by rfl) (by rfl) H2 (aD _) (bC _ _) (aN _) hS2 ?_
   try simp only [Act.put, ZqA, ZqB, ZqC]
   refine wpAnyH_done (by kernel_rfl) ?_ _
   go_wp2_with fail
   refine ZqH (v := .tuple #[.bool false, .agg (cpc (nores K)), .agg (tpc m.t)]) (fN _ _ (w.heap.size + 1) (w.heap.size + 2) 31 42 _ _ (0, 0) (0, 0) _ _ _ results105 (by rfl) (by rfl) (by rfl) HR1.out HR2.out underlying31 (by rfl) (aB _) underlying42 (by rfl) (aD _)) rfl ⟨by rw [HK2.out, HH2.out], L1, HP9.out⟩
end Go.Proofs.YtddlmenfcbjoaaaGreatDoor
