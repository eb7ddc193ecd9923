import Derived.Test.YtddlmenfcbjoaaaGreatDoorK44
namespace Go.Proofs.YtddlmenfcbjoaaaGreatDoor
set_option linter.unusedVariables false
set_option maxRecDepth 100000
set_option maxHeartbeats 8000000
open Go.MuLone Go.ChangeShapes Go.WideShapes Go.ChangeAt Go.RowKit Go.Deep _root_.Go.Proofs.Tryz
theorem length_n (c : Cp) (i : Ins) (raw : BitVec 32) (S : St) (ar ai ao : Option Addr) (cr ci co : Nat) (w : World) (hT : Tb w) (hok : S.ok = false) :
  Calls prog 6 #[.agg (cpc c), .agg (stc S (.slice ar S.ram.length cr) (.slice ai S.inp.length ci) (.slice ao S.out.length co)), .agg (inc i), .int .u32 (n32 raw)] w fun e w' => e = .returned (.bool true) ∧ Below w.heap.size w w' := by
 obtain ⟨W0, hW0, r0, r1, r2, b0', -⟩ := jE w (cpc c) (stc S (.slice ar S.ram.length cr) (.slice ai S.inp.length ci) (.slice ao S.out.length co)) (inc i) 31 35 48
 have HM : Hid (∀ W, Calls prog 8 #[.agg (stc S (.slice ar S.ram.length cr) (.slice ai S.inp.length ci) (.slice ao S.out.length co))] W fun e w' => e = .returned (.tuple #[.pointer none, .bool false]) ∧ Below W.heap.size W w') := fun W => qF S ar ai ao cr ci co W hok
 have HI : Hid ((prog.info? 35).map (·.size) = some (stc S (.slice ar S.ram.length cr) (.slice ai S.inp.length ci) (.slice ao S.out.length co)).size) := cJ _ _ _ _
 have HF : Hid (∀ W, Below w.heap.size w W → Calls prog 9 #[] W fun e w' => e = .returned (.bool true) ∧ Below W.heap.size W w') := fun W hb => gM W (hT.next hb)
 have HR1 := Hid.mk' r1
 have b0 := Hid.mk' b0'
 clear r0 r1 r2 hok hT b0'
 generalize (stc S (.slice ar S.ram.length cr) (.slice ai S.inp.length ci) (.slice ao S.out.length co)) = cs at HM HI HR1 hW0 ⊢
 generalize cpc c = cc at hW0 ⊢
 generalize inc i = ii at hW0 ⊢
 go_enter func6, ntmps6
 go_upto_region 1 with fail
 clear hW0
 go_upto_region 2 with (first | (refine wpList_load_row (by rfl) _ _ (by rfl) _ (by rfl) 35 _ (0, 0) _ HR1.out underlying35 (by rfl) (HI.out) ?_) | (go_at_call 8; refine (HM.out _).mono ?_; rintro e w1 ⟨rfl, hb⟩; have HB1 := Hid.mk' hb; clear hb))
 have HR2 := Hid.mk' (HR1.out.later HB1.out HR1.out.lt)
 have HBa := Hid.mk' (b0.out.trans (HB1.out.mono b0.out.size))
 clear HR1
 go_wp2_with (first | (refine wpList_load_row (by rfl) _ _ (by rfl) _ (by rfl) 35 _ (0, 0) _ HR2.out underlying35 (by rfl) (HI.out) ?_) | (go_at_call 8; refine (HM.out _).mono ?_; rintro e w2 ⟨rfl, hb⟩; have HB := Hid.mk' (HBa.out.trans (hb.mono HBa.out.size)); clear hb) | (go_at_call 9; refine (HF.out _ HB.out).mono ?_; rintro e w3 ⟨rfl, hb⟩; have HB2 := Hid.mk' (HB.out.trans (hb.mono HB.out.size)); clear hb))
 go_ret
 exact ⟨rfl, HB2.out⟩
def iZ : Ins := ⟨0, 0, 0, 0, 0, false, false, 0, 0#32⟩
theorem MU (w : World) : (zeroValue 48).run prog w = .ok (.agg (inc iZ)) w := by kernel_rfl
theorem length_y (c : Cp) (i : Ins) (raw : BitVec 32) (S : St) (ar ai ao : Option Addr) (cr ci co : Nat) (w : World) (hT : Tb w) (him : I64 i.im) (hok : S.ok = true) (hw : StW S) (hs : Bs S (.slice ar S.ram.length cr) (.slice ai S.inp.length ci) (.slice ao S.out.length co) w) (lr : S.ram.length ≤ 140737488355328) (li : S.inp.length ≤ 140737488355328) (lo : S.out.length ≤ 140737488355328) :
  Calls prog 6 #[.agg (cpc c), .agg (stc S (.slice ar S.ram.length cr) (.slice ai S.inp.length ci) (.slice ao S.out.length co)), .agg (inc i), .int .u32 (n32 raw)] w fun e w' => e = .returned (.bool true) ∧ Below w.heap.size w w' := by
 obtain ⟨V, hV⟩ := gZ
 obtain ⟨W0, hW0, r0, r1, r2, b0, -⟩ := jE w (cpc c) (stc S (.slice ar S.ram.length cr) (.slice ai S.inp.length ci) (.slice ao S.out.length co)) (inc i) 31 35 48
 have HM : Hid (∀ W, Below W0.heap.size W0 W → Calls prog 8 #[.agg (stc S (.slice ar S.ram.length cr) (.slice ai S.inp.length ci) (.slice ao S.out.length co))] W fun e w' => ∃ L, e = .returned (.tuple #[.pointer (some ⟨L.b, 0, none⟩), .bool true]) ∧ PB W.heap.size L S w' ∧ Below W.heap.size W w') := fun W hb => qG S ar ai ao cr ci co W hok ((hs.later b0).later hb) lr li lo
 have HI : Hid ((prog.info? 35).map (·.size) = some (stc S (.slice ar S.ram.length cr) (.slice ai S.inp.length ci) (.slice ao S.out.length co)).size) := cJ _ _ _ _
 have HT0 : Hid (Tb W0) := hT.next b0
 have HF : Hid (∀ W, Tb W → Calls prog 9 #[] W fun e w' => e = .returned (.bool true) ∧ Below W.heap.size W w') := fun W h => gM W h
 have HSK : Hid (Sok S) := ⟨hok, hw⟩
 have HR0 := Hid.mk' r0
 have HR1 := Hid.mk' r1
 have HR2 := Hid.mk' r2
 have HB0 := Hid.mk' b0
 have HIM := hid him
 have HV := hid hV
 have HRW : Hid (IntKind.u64.wrap (n32 raw) = n64 (rB raw)) := rw_n6 raw
 have HIW : Hid (IntKind.u64.wrap (n32 i.rw) = n64 (rB i.rw)) := rw_n6 i.rw
 clear r0 r1 r2 hok hw hs lr li lo hT b0 him hV
 have b0 := HB0
 generalize hcs : (stc S (.slice ar S.ram.length cr) (.slice ai S.inp.length ci) (.slice ao S.out.length co)) = cs at HM HI HR1 hW0 ⊢
 clear hcs
 have hzc := cC
 have hzd := fP
 have hzi := MU
 go_enter func6, ntmps6
 go_upto_region 1 with fail
 clear hW0
 go_upto_region 2 with (first | (refine wpList_load_row (by rfl) _ _ (by rfl) _ (by rfl) 35 _ (0, 0) _ HR1.out underlying35 (by rfl) (HI.out) ?_) | (go_at_call 8; refine (HM.out _ (ZqD _ _)).mono ?_; rintro e w1 ⟨L, rfl, hp1, hb1⟩; have HK1 : Hid (Ky W0 L.b L S w1) := ⟨hp1, rfl, hb1⟩; clear hp1 hb1))
 have HR1' := Hid.mk' (HR1.out.later HK1.out.be HR1.out.lt)
 clear HR1
 go_upto_region 7 with (first | (refine wpList_load_row (by rfl) _ _ (by rfl) _ (by rfl) 35 _ (0, 0) _ HR1'.out underlying35 (by rfl) (HI.out) ?_) | (go_at_call 8; refine (HM.out _ HK1.out.be).mono ?_; rintro e w2 ⟨M, rfl, hp2, hb2⟩; have HZ2 : Hid (Kz W0 L.b M.b L M S S w2) := Kz.mk2 HK1.out hp2 hb2; clear hp2 hb2) | (go_at_call 9; refine (HF.out _ (HT0.out.next HZ2.out.l.be)).mono ?_; rintro e w3 ⟨rfl, hb3⟩; have HZ3 : Hid (Kz W0 L.b M.b L M S S w3) := HZ2.out.later hb3; clear hb3))
 clear HK1 HZ2 HM HI HR1' HF
 obtain ⟨X, hX⟩ : ∃ X, X = dC (dR (vA V) S L.b c (iL i)) c := ⟨_, rfl⟩
 obtain ⟨D, hD⟩ : ∃ D, D = dD (dR (vA V) S L.b c (iL i)) := ⟨_, rfl⟩
 obtain ⟨Y, hY⟩ : ∃ Y, Y = dC (dR (vA V) S M.b c (iS i raw)) c := ⟨_, rfl⟩
 obtain ⟨E, hE⟩ : ∃ E, E = dD (dR (vA V) S M.b c (iS i raw)) := ⟨_, rfl⟩
 obtain ⟨T, hTT⟩ : ∃ T, T = (dR (vA V) S L.b c (iL i)).S := ⟨_, rfl⟩
 obtain ⟨P, hP⟩ : ∃ P, P = PR c := ⟨_, rfl⟩
 have HLS : Hid (Lsm i raw P X Y D E) := by unfold Hid; rw [hX, hD, hY, hE, hP]; exact VV _ _ _ _ _ _ _
 have HTK : Hid (Sok T) := by unfold Hid; rw [hTT]; exact GJ _ HSK.out _ _ _
 have HD1 : Hid (∀ L1 W, Ky W0 L.b L1 S W → Calls prog 11 #[.agg (cpc c), .pointer (some ⟨L.b, 0, none⟩), .agg (inc (iL i))] W fun e w' => e = .returned (.tuple #[.agg (cpc X), .agg (dnc D)]) ∧ ∃ L', PSt W0.heap.size L1 W L' T w') := fun L1 W hk => by rw [hX, hD, hTT]; exact sZ HT0.out HSK.out HV.out c (iL i) HIM.out hk
 have HD2 : Hid (∀ L1 W, Ky W0 M.b L1 S W → Calls prog 11 #[.agg (cpc c), .pointer (some ⟨M.b, 0, none⟩), .agg (inc (iS i raw))] W fun e w' => e = .returned (.tuple #[.agg (cpc Y), .agg (dnc E)]) ∧ ∃ L', PSt W0.heap.size L1 W L' T w') := fun L1 W hk => by
  have q := sZ HT0.out HSK.out HV.out c (iS i raw) HIM.out hk
  rw [ON (vA V) S L.b M.b c i raw, ← hTT, ← hY, ← hE] at q
  exact q
 have HPc : Hid (∀ W, Calls prog 10 #[.agg (cpc c)] W fun e w' => e = .returned (.agg (cpc P)) ∧ Below W.heap.size W w') := fun W => by rw [hP]; exact jF c W
 clear hX hD hY hE hTT hP HV HIM
 generalize L.b = b at HD1 HZ3 ⊢
 generalize M.b = d at HD2 HZ3 ⊢
 have HXi := Hid.mk' (HR2.out.later HZ3.out.l.be HR2.out.lt)
 --@R7
 go_upto_region 8 with (first | (refine wpList_load_row (by rfl) _ _ (by rfl) _ (by rfl) 48 _ (0, 0) _ HXi.out underlying48 (by rfl) (fW _) ?_) | (refine bP (by rfl) 48 _ _ (by rfl) (by rfl) w3 (inc iZ) (inc i) (by rfl) (by rfl) (by rfl) (fW _) (rfl) (vP _) ?_))
 refine bT (motive := fun W => Code.wp _ _ _ _ W) (Q := fun W => (Kz W0 b d L M S S W) ∧ (Kt W0 L M W w3.heap.size (inc i) 48)) ⟨HZ3.out.later (aG _ _), Kt.new HZ3.out _ _⟩ ?_
 clear HZ3 HXi
 generalize w3.heap.size = gl
 rintro W7 ⟨q0, q1⟩
 have HZ := hid q0
 have HG := hid q1
 clear q0 q1

 have l7 : W7.cell? ⟨gl, 7, none⟩ = some (.int .i64 i.ln) := HG.out.r.cell 7
 have f7 := HG.out.r.froz 7
 go_upto_region 9 with fail
 clear l7 f7
 refine bT (motive := fun W => Code.wp _ _ _ _ W) (Q := fun W => (Kz W0 b d L M S S W) ∧ (Kt W0 L M W gl (inc (iL i)) 48)) ⟨HZ.out.lay HG.out 7 [.int .i64 4], (HG.out.lay [.int .i64 4] 7).eqs rfl⟩ ?_
 clear HZ HG
 rintro W8 ⟨q0, q1⟩
 have HZ8 := hid q0
 have HG8 := hid q1
 clear q0 q1

 have HXi := Hid.mk' (HR2.out.later HZ8.out.l.be HR2.out.lt)
 --@R9
 go_upto_region 10 with (first | (refine wpList_load_row (by rfl) _ _ (by rfl) _ (by rfl) 48 _ (0, 0) _ HXi.out underlying48 (by rfl) (fW _) ?_) | (refine bP (by rfl) 48 _ _ (by rfl) (by rfl) W8 (inc iZ) (inc i) (by rfl) (by rfl) (by rfl) (fW _) (rfl) (vP _) ?_))
 refine bT (motive := fun W => Code.wp _ _ _ _ W) (Q := fun W => (Kz W0 b d L M S S W) ∧ (Kt W0 L M W gl (inc (iL i)) 48) ∧ (Kt W0 L M W W8.heap.size (inc i) 48) ∧ (gl ≠ W8.heap.size)) ⟨HZ8.out.later (aG _ _), HG8.out.later (aG _ _), Kt.new HZ8.out _ _, Nat.ne_of_lt HG8.out.r.lt⟩ ?_
 clear HZ8 HG8 HXi
 generalize W8.heap.size = gs
 rintro W9 ⟨q0, q1, q2, q3⟩
 have HZ := hid q0
 have HG := hid q1
 have HH := hid q2
 have HNE := hid q3
 clear q0 q1 q2 q3

 have l7 : W9.cell? ⟨gs, 7, none⟩ = some (.int .i64 i.ln) := HH.out.r.cell 7
 have f7 := HH.out.r.froz 7
 go_upto_region 11 with fail
 clear l7 f7
 refine bT (motive := fun W => Code.wp _ _ _ _ W) (Q := fun W => (Kz W0 b d L M S S W) ∧ (Kt W0 L M W gl (inc (iL i)) 48) ∧ (Kt W0 L M W gs (inc { i with ln := 2 }) 48)) ⟨HZ.out.lay HH.out 7 [.int .i64 2], HG.out.lays HNE.out [.int .i64 2] 7, (HH.out.lay [.int .i64 2] 7).eqs rfl⟩ ?_
 clear HZ HG HH
 rintro W10 ⟨q0, q1, q2⟩
 have HZ8 := hid q0
 have HG8 := hid q1
 have HH8 := hid q2
 clear q0 q1 q2

 have l8 : W10.cell? ⟨gs, 8, none⟩ = some (.int .u32 (n32 i.rw)) := HH8.out.r.cell 8
 have f8 := HH8.out.r.froz 8
 go_upto_region 12 with fail
 clear l8 f8
 refine bT (motive := fun W => Code.wp _ _ _ _ W) (Q := fun W => (Kz W0 b d L M S S W) ∧ (Kt W0 L M W gl (inc (iL i)) 48) ∧ (Kt W0 L M W gs (inc (iS i raw)) 48)) ⟨HZ8.out.lay HH8.out 8 [.int .u32 (n32 raw)], HG8.out.lays HNE.out [.int .u32 (n32 raw)] 8, (HH8.out.lay [.int .u32 (n32 raw)] 8).eqs rfl⟩ ?_
 clear HZ8 HG8 HH8 HNE
 rintro W11 ⟨q0, q1, q2⟩
 have HZ := hid q0
 have HG := hid q1
 have HH := hid q2
 clear q0 q1 q2

 have HX0 := Hid.mk' (HR0.out.later HZ.out.l.be HR0.out.lt)
 have HGr := Hid.mk' HG.out.r
 --@R12
 go_upto_region 13 with (first | (refine wpList_load_row (by rfl) _ _ (by rfl) _ (by rfl) 31 _ (0, 0) _ HX0.out underlying31 (by rfl) (aB _) ?_) | (refine wpList_load_row (by rfl) _ _ (by rfl) gl (by rfl) 48 _ (0, 0) _ HGr.out underlying48 (by rfl) (fW _) ?_) | (go_at_call 11; refine (HD1.out _ _ HZ.out.l).mono ?_; rintro e w5 ⟨rfl, L2, hp5⟩; have HP5 : Hid _ := hp5; clear hp5; have HRa := Hid.mk' (iD w5 (cpc cz) (dnc dZ) 31 44); have HRb := Hid.mk' (iE w5 (cpc cz) (cpc X) (dnc dZ) 31 44)) | (refine aA (by rfl) _ _ _ (by rfl) (by rfl) w5.heap.size _ _ (by rfl) (by rfl) HRa.out (aB _) (by rw [aE, aE]) (aO _) ?_) | (refine aA (by rfl) _ _ _ (by rfl) (by rfl) (w5.heap.size + 1) _ _ (by rfl) (by rfl) HRb.out (bE _) (eZ _ _) (dI _) ?_))
 refine bT (motive := fun W => Code.wp _ _ _ _ W) (Q := fun W => (Kz W0 b d L2 M T S W) ∧ (Kt W0 L2 M W w5.heap.size (cpc X) 31) ∧ (Kt W0 L2 M W (w5.heap.size + 1) (dnc D) 44) ∧ (Kt W0 L2 M W gs (inc (iS i raw)) 48)) ⟨(kK (HZ.out.stepL HP5.out) (cpc cz) (cpc X) (dnc dZ) (dnc D) 31 44).1, (kK (HZ.out.stepL HP5.out) (cpc cz) (cpc X) (dnc dZ) (dnc D) 31 44).2.1, (kK (HZ.out.stepL HP5.out) (cpc cz) (cpc X) (dnc dZ) (dnc D) 31 44).2.2.1, (kK (HZ.out.stepL HP5.out) (cpc cz) (cpc X) (dnc dZ) (dnc D) 31 44).2.2.2 _ _ _ (HH.out.stepL HP5.out)⟩ ?_
 clear HZ HG HH HGr HP5 HRa HRb HX0 HD1
 generalize w5.heap.size = gx
 rintro W12 ⟨q0, q1, q2, q3⟩
 have HZ8 := hid q0
 have HRX := hid q1
 have HRD := hid q2
 have HH8 := hid q3
 clear q0 q1 q2 q3

 have HZ := HZ8
 have HH := HH8
 clear HZ8 HH8
 generalize hgd : gx + 1 = gd at HRD ⊢
 have HX0 := Hid.mk' (HR0.out.later HZ.out.l.be HR0.out.lt)
 have HGr := Hid.mk' HH.out.r
 --@R13
 go_upto_region 14 with (first | (refine wpList_load_row (by rfl) _ _ (by rfl) _ (by rfl) 31 _ (0, 0) _ HX0.out underlying31 (by rfl) (aB _) ?_) | (refine wpList_load_row (by rfl) _ _ (by rfl) gs (by rfl) 48 _ (0, 0) _ HGr.out underlying48 (by rfl) (fW _) ?_) | (go_at_call 11; refine (HD2.out _ _ HZ.out.m).mono ?_; rintro e w5 ⟨rfl, M2, hp5⟩; have HP5 : Hid _ := hp5; clear hp5; have HRa := Hid.mk' (iD w5 (cpc cz) (dnc dZ) 31 44); have HRb := Hid.mk' (iE w5 (cpc cz) (cpc Y) (dnc dZ) 31 44)) | (refine aA (by rfl) _ _ _ (by rfl) (by rfl) w5.heap.size _ _ (by rfl) (by rfl) HRa.out (aB _) (by rw [aE, aE]) (aO _) ?_) | (refine aA (by rfl) _ _ _ (by rfl) (by rfl) (w5.heap.size + 1) _ _ (by rfl) (by rfl) HRb.out (bE _) (eZ _ _) (dI _) ?_))
 refine bT (motive := fun W => Code.wp _ _ _ _ W) (Q := fun W => (Kz W0 b d L2 M2 T T W) ∧ (Kt W0 L2 M2 W w5.heap.size (cpc Y) 31) ∧ (Kt W0 L2 M2 W (w5.heap.size + 1) (dnc E) 44) ∧ (Kt W0 L2 M2 W gx (cpc X) 31) ∧ (Kt W0 L2 M2 W gd (dnc D) 44) ∧ (gx < w5.heap.size ∧ gd < w5.heap.size)) ⟨(kK (HZ.out.stepM HP5.out) (cpc cz) (cpc Y) (dnc dZ) (dnc E) 31 44).1, (kK (HZ.out.stepM HP5.out) (cpc cz) (cpc Y) (dnc dZ) (dnc E) 31 44).2.1, (kK (HZ.out.stepM HP5.out) (cpc cz) (cpc Y) (dnc dZ) (dnc E) 31 44).2.2.1, (kK (HZ.out.stepM HP5.out) (cpc cz) (cpc Y) (dnc dZ) (dnc E) 31 44).2.2.2 _ _ _ (HRX.out.stepM HP5.out), (kK (HZ.out.stepM HP5.out) (cpc cz) (cpc Y) (dnc dZ) (dnc E) 31 44).2.2.2 _ _ _ (HRD.out.stepM HP5.out), ⟨(HRX.out.stepM HP5.out).r.lt, (HRD.out.stepM HP5.out).r.lt⟩⟩ ?_
 clear HZ HH HGr HP5 HRa HRb HX0 HD2 HRX HRD
 generalize w5.heap.size = gy
 rintro W13 ⟨q0, q1, q2, q3, q4, q5⟩
 have HZ8 := hid q0
 have HRY := hid q1
 have HRE := hid q2
 have HRX8 := hid q3
 have HRD8 := hid q4
 have HNE := hid q5
 clear q0 q1 q2 q3 q4 q5

 have HZ := HZ8
 have HRX := HRX8
 have HRD := HRD8
 clear HZ8 HRX8 HRD8
 generalize hge : gy + 1 = ge at HRE ⊢
 have HGE : Hid (gx ≠ gy ∧ (gd ≠ gy ∧ ge ≠ gy) ∧ W0.heap.size ≤ gy) := ⟨by have := HNE.out; omega, ⟨by have := HNE.out; omega, by omega⟩, HRY.out.ge⟩
 have HGD : Hid (gx ≠ ge ∧ gd ≠ ge ∧ gy ≠ ge ∧ W0.heap.size ≤ ge) := ⟨by have := HNE.out; omega, by have := HNE.out; omega, by omega, HRE.out.ge⟩
 clear hgd hge HNE
 have HA1 : Hid (∀ W, Ky W0 b L2 T W → Calls prog 12 #[.pointer (some ⟨b, 0, none⟩)] W fun e w' => ∃ ur ui uo, e = .returned (.agg (stc T ur ui uo)) ∧ Sv W.heap.size T ur ui uo w' ∧ Below W.heap.size W w') := fun W hk => iN HTK.out hk
 have HA2 : Hid (∀ W, Ky W0 d M2 T W → Calls prog 12 #[.pointer (some ⟨d, 0, none⟩)] W fun e w' => ∃ ur ui uo, e = .returned (.agg (stc T ur ui uo)) ∧ Sv W.heap.size T ur ui uo w' ∧ Below W.heap.size W w') := fun W hk => iN HTK.out hk
 have HC0 : Hid (∀ W, Below W13.heap.size W13 W → W.cell? ⟨gd, 0, none⟩ = some (.bool D.t.is) ∧ W.cell? ⟨ge, 0, none⟩ = some (.bool D.t.is) ∧ W.cell? ⟨gd, 1, none⟩ = some (.int .u64 D.t.ca) ∧ W.cell? ⟨ge, 1, none⟩ = some (.int .u64 D.t.ca)) := fun W hb => ⟨(HRD.out.later hb).r.cell 0, by rw [← HLS.out.is]; exact (HRE.out.later hb).r.cell 0, (HRD.out.later hb).r.cell 1, by rw [← HLS.out.ca]; exact (HRE.out.later hb).r.cell 1⟩
 have HZ0 : Hid True := trivial
 --@R14
 go_upto_region 16 with (first | (have hz0 := HZ0.out; clear HZ0; go_at_call 12; refine (HA1.out _ HZ.out.l).mono ?_; rintro e w7 ⟨u1, u2, u3, rfl, hsv, hb7⟩; have HS7 : Hid (Bs T u1 u2 u3 w7) := hsv.bs; have HB7 := hid hb7; clear hsv hb7) | (go_at_call 12; refine (HA2.out _ (HZ.out.later HB7.out).m).mono ?_; rintro e w8 ⟨u4, u5, u6, rfl, hsv, hb8⟩; have HS8 : Hid (Bs T u4 u5 u6 w8) := hsv.bs; have HS7' : Hid (Bs T u1 u2 u3 w8) := HS7.out.later hb8; have HB8 : Hid (Below W13.heap.size W13 w8) := HB7.out.trans (hb8.mono HB7.out.size); clear hsv hb8) | (go_at_call 13; refine (oQ T _ _ _ _ _ _ w8 HS7'.out HS8.out).mono ?_; rintro e w9 ⟨rfl, hb9⟩; have HB9 : Hid (Below W13.heap.size W13 w9) := HB8.out.trans (hb9.mono HB8.out.size); clear hb9; obtain ⟨d0, e0, d1, e1⟩ := HC0.out w9 HB9.out))
 have HBt := Hid.mk' ((HZ.out.later HB9.out).l.be)
 have HXt := Hid.mk' (HRX.out.later HB9.out).r
 have HYt := Hid.mk' (HRY.out.later HB9.out).r
 have HDt := Hid.mk' (HRD.out.later HB9.out).r
 have HEt := Hid.mk' (HRE.out.later HB9.out).r
 have HIt := Hid.mk' (HR2.out.later HBt.out HR2.out.lt)
 clear HS7 HB7 HS8 HS7' HB8 HB9 HZ HRX HRY HRD HRE HA1 HA2 HC0 HR2
 obtain ⟨WT, hWT⟩ : ∃ WT, WT = w9 := ⟨_, rfl⟩
 rw [← hWT] at d0 e0 d1 e1 HBt HXt HYt HDt HEt HIt ⊢
 clear hWT
 generalize hgi : w.heap.size + 2 = gi at HIt ⊢
 clear hgi
 --@R16
 cases hti : D.t.is with
 | true =>
  rw [hti] at d0 e0
  obtain ⟨qX, qY, qq⟩ := HLS.out.tr hti
  rw [qX] at HXt
  rw [qY] at HYt
  have i8 : WT.cell? ⟨gi, 8, none⟩ = some (.int .u32 (n32 i.rw)) := HIt.out.cell 8
  have hrw := HRW.out
  have hiw := HIW.out
  rcases qq with ⟨q1, q2, q3⟩ | ⟨q1, q2⟩
  ·rw [q1] at d1 e1
   have d2 : WT.cell? ⟨gd, 2, none⟩ = some (.int .u64 (n64 (rB i.rw))) := by rw [← q2]; exact HDt.out.cell 2
   have e2 : WT.cell? ⟨ge, 2, none⟩ = some (.int .u64 (n64 (rB raw))) := by rw [← q3]; exact HEt.out.cell 2
   generalize n64 (rB i.rw) = m1 at d2 hiw
   generalize n64 (rB raw) = m2 at e2 hrw
   generalize n32 i.rw = m3 at i8 hiw
   clear q1 q2 q3 qX qY hti HLS HRW HIW
   go_upto_region 19 with fail
   clear d2 e2 i8
   go_wp2_with (first | (refine wpList_load_row (by rfl) _ _ (by rfl) gx (by rfl) 31 _ (0, 0) _ HXt.out underlying31 (by rfl) (aB _) ?_) | (refine wpList_load_row (by rfl) _ _ (by rfl) gy (by rfl) 31 _ (0, 0) _ HYt.out underlying31 (by rfl) (aB _) ?_) | (refine bO (by rfl) 31 _ _ _ (by rfl) (cpc P) (cpc P) (by rfl) (by rfl) (jX _ _) (eN _ _ _ _ _) ?_))
   go_ret
   exact ⟨rfl, b0.out.trans (HBt.out.mono b0.out.size)⟩
  ·have hc2 : (D.t.ca == 2) = false := by rw [beq_eq_false_iff_ne]; exact q1
   rw [q2] at HEt
   generalize D.t.ca = cc at d1 e1 hc2
   clear q1 q2 qX qY hti HLS HRW HIW hrw hiw
   go_upto_region 19 with fail
   go_wp2_with (first | (refine wpList_load_row (by rfl) _ _ (by rfl) gx (by rfl) 31 _ (0, 0) _ HXt.out underlying31 (by rfl) (aB _) ?_) | (refine wpList_load_row (by rfl) _ _ (by rfl) gy (by rfl) 31 _ (0, 0) _ HYt.out underlying31 (by rfl) (aB _) ?_) | (refine bA (by rfl) _ _ (by rfl) gd (by rfl) 44 _ (0, 0) _ HDt.out underlying44 (by rfl) (bE _) ?_) | (refine bA (by rfl) _ _ (by rfl) ge (by rfl) 44 _ (0, 0) _ HEt.out underlying44 (by rfl) (bE _) ?_) | (refine bO (by rfl) 31 _ _ _ (by rfl) (cpc P) (cpc P) (by rfl) (by rfl) (jX _ _) (eN _ _ _ _ _) ?_) | (refine bO (by rfl) 44 _ _ _ (by rfl) (dnc D) (dnc D) (by rfl) (by rfl) (fG _ _) (fC _ _ _ _ _) ?_))
   go_ret
   exact ⟨rfl, b0.out.trans (HBt.out.mono b0.out.size)⟩
 | false =>
  rw [hti] at d0 e0
  obtain ⟨hle, hx, hrd, hpc⟩ := HLS.out.no hti
  have HPC := hid hpc
  have HLX := Hid.mk' hx
  have d3 : WT.cell? ⟨gd, 3, none⟩ = some (.int .i64 D.rd) := HDt.out.cell 3
  have i0 : WT.cell? ⟨gi, 0, none⟩ = some (.int .i64 i.op) := HIt.out.cell 0
  have r1 : ¬ D.rd < 0 := by omega
  have r2 : ¬ (31 : Int) < D.rd := by omega
  have hrd32 : D.rd < 32 := hrd.2
  have HRD0 : Hid (0 ≤ D.rd) := hrd.1
  clear hle hx hrd hpc hti HLS d1 e1
  obtain ⟨t, ht⟩ : ∃ t, t = decide (i.op = 3 ∨ i.op = 4) := ⟨_, rfl⟩
  have HLK : Hid (∀ W, Calls prog 17 #[.int .i64 i.op] W fun e w' => e = .returned (.bool t) ∧ w' = W) := fun W => PK i.op t ht W
  --@R20
  go_upto_region 22 with fail
  clear r1 r2 d0 e0
  by_cases hlk : t = true ∧ D.rd ≠ 0
  ·obtain ⟨q1, q2, q3⟩ := HLX.out.1 ⟨of_decide_eq_true (ht.symm.trans hlk.1), hlk.2⟩
   obtain ⟨ht1, hr0⟩ := hlk
   subst ht1
   clear ht HLX
   obtain ⟨r, hr⟩ : ∃ r : Nat, D.rd = (r : Int) := ⟨D.rd.toNat, by have := HRD0.out; omega⟩
   have hr32 : r < 32 := by omega
   have hrI : (r : Int) < 32 := by omega
   have hrn : ((r : Int) != 0) = true := by rw [bne_iff_ne]; omega
   have HEQ0 : Hid (({ Y with x := upd Y.x r D.v, pc := X.pc } : Cp) = X) := by unfold Hid; rw [hr] at q3; exact q3
   rw [hr] at d3
   have d4 : WT.cell? ⟨gd, 4, none⟩ = some (.int .u64 (n64 D.v)) := HDt.out.cell 4
   have e4 : WT.cell? ⟨ge, 4, none⟩ = some (.int .u64 (n64 E.v)) := HEt.out.cell 4
   have w2 : IntKind.u64.wrap (n64 E.v + 2) = n64 D.v := by rw [q1]; exact dA E.v 2#64
   have f4 := HEt.out.froz 4
   have HED := hid q2
   have HVV : Hid (dnc E = dnc E) := rfl
   have HRR := hid hr
   clear q1 q2 q3 hr hr0 hrd32 HRD0
   generalize hdv : n64 D.v = dv at d4 w2
   have HDV := Hid.mk' hdv
   clear hdv
   --@R22
   go_upto_region 26 with (go_at_call 17; refine (HLK.out _).mono ?_; rintro e w6 ⟨rfl, hw6⟩; have hw62 := hw6.symm; subst hw62)
   clear w2 f4 e4 i0
   refine bT (motive := fun W => Code.wp _ _ _ _ W) (Q := fun W => (Below W0.heap.size W0 W) ∧ (Row W gx (cpc X) 31) ∧ (Row W gy (cpc Y) 31) ∧ (Row W gd (dnc D) 44) ∧ (Row W ge (dnc D) 44)) ⟨aM HBt.out HGD.out.2.2.2 _, HXt.out.other HGD.out.1 _, HYt.out.other HGD.out.2.2.1 _, HDt.out.other HGD.out.2.1 _, by rw [← HED.out, ← HDV.out]; exact HEt.out.put _⟩ ?_
   clear HBt HXt HYt HDt HEt HIt d3 d4
   rintro W25 ⟨q0, q1, q2, q3, q4⟩
   have HBs := hid q0
   have HXs := hid q1
   have HYs := hid q2
   have HDs := hid q3
   have HEs := hid q4
   clear q0 q1 q2 q3 q4

   have d3 : W25.cell? ⟨gd, 3, none⟩ = some (.int .i64 (r : Int)) := by have q := HDs.out.cell 3; rw [← HRR.out]; exact q
   have d4 : W25.cell? ⟨gd, 4, none⟩ = some (.int .u64 dv) := by rw [← HDV.out]; exact HDs.out.cell 4
   have yr : W25.cell? ⟨gy, 1 + r, none⟩ = some (.int .u64 (n64 (Y.x r))) := HYs.out.xj r hr32
   have fr := HYs.out.froz (1 + r)
   --@R26
   go_upto_region 27 with fail
   clear d3 d4 yr fr
   refine bT (motive := fun W => Code.wp _ _ _ _ W) (Q := fun W => (Below W0.heap.size W0 W) ∧ (Row W gx (cpc X) 31) ∧ (Row W gy (cpc { Y with x := upd Y.x r D.v }) 31) ∧ (Row W gd (dnc D) 44) ∧ (Row W ge (dnc D) 44)) ⟨aM HBs.out HGE.out.2.2 _, HXs.out.other HGE.out.1 _, by rw [← pQ Y r hr32 D.v, HDV.out]; exact HYs.out.put _, HDs.out.other HGE.out.2.1.1 _, HEs.out.other HGE.out.2.1.2 _⟩ ?_
   clear HBs HXs HYs HDs HEs HDV
   rintro WT ⟨q0, q1, q2, q3, q4⟩
   have HBt := hid q0
   have HXt := hid q1
   have HYt := hid q2
   have HDt := hid q3
   have HEt := hid q4
   clear q0 q1 q2 q3 q4

   obtain ⟨yp, hyp⟩ : ∃ yp, yp = Y.pc := ⟨_, rfl⟩
   rw [← hyp] at HPC
   have HYp : Hid (({ Y with x := upd Y.x r D.v } : Cp).pc = yp) := hyp.symm
   have HEQ : Hid (({ ({ Y with x := upd Y.x r D.v } : Cp) with pc := X.pc } : Cp) = X) := HEQ0.out
   clear hyp
   generalize hY1 : ({ Y with x := upd Y.x r D.v } : Cp) = Y1 at HYt HYp HEQ
   clear hY1
   have HT0r := Hid.mk' (HR0.out.later HBt.out HR0.out.lt)
   --@R27
   go_upto_region 28 with (first | (refine wpList_load_row (by rfl) _ _ (by rfl) _ (by rfl) 31 _ (0, 0) _ HT0r.out underlying31 (by rfl) (aB _) ?_) | (go_at_call 10; refine (HPc.out _).mono ?_; rintro e w6 ⟨rfl, hb6⟩; have HB6 := hid hb6; clear hb6) | (refine bP (by rfl) 31 _ _ (by rfl) (by rfl) w6 (cpc cz) (cpc P) (by rfl) (by rfl) (by rfl) (aB _) (by rw [aE, aE]) (aO _) ?_))
   refine bT (motive := fun W => Code.wp _ _ _ _ W) (Q := fun W => (Below W0.heap.size W0 W) ∧ (Row W gx (cpc X) 31) ∧ (Row W gy (cpc Y1) 31) ∧ (Row W gd (dnc D) 44) ∧ (Row W ge (dnc D) 44) ∧ (Row W w6.heap.size (cpc P) 31)) ⟨(HBt.out.trans (HB6.out.mono HBt.out.size)).trans ((aG _ _).mono (ZqO HBt.out.size HB6.out.size)), (HXt.out.later HB6.out HXt.out.lt).old (HXt.out.later HB6.out HXt.out.lt).lt _, (HYt.out.later HB6.out HYt.out.lt).old (HYt.out.later HB6.out HYt.out.lt).lt _, (HDt.out.later HB6.out HDt.out.lt).old (HDt.out.later HB6.out HDt.out.lt).lt _, (HEt.out.later HB6.out HEt.out.lt).old (HEt.out.later HB6.out HEt.out.lt).lt _, Row.new _ _ _⟩ ?_
   clear HBt HXt HYt HDt HEt HB6 HT0r
   generalize w6.heap.size = gp
   rintro W27 ⟨q0, q1, q2, q3, q4, q5⟩
   have HBu := hid q0
   have HXu := hid q1
   have HYu := hid q2
   have HDu := hid q3
   have HEu := hid q4
   have HPu := hid q5
   clear q0 q1 q2 q3 q4 q5

   have x0 : W27.cell? ⟨gx, 0, none⟩ = some (.int .u64 (n64 X.pc)) := HXu.out.cls.pc
   have y0 : W27.cell? ⟨gy, 0, none⟩ = some (.int .u64 (n64 yp)) := by rw [← HYp.out]; exact HYu.out.cls.pc
   have p0 : W27.cell? ⟨gp, 0, none⟩ = some (.int .u64 (n64 P.pc)) := HPu.out.cls.pc
   have e4 : IntKind.u64.wrap (n64 P.pc + 4) = n64 (P.pc + 4#64) := dA P.pc 4#64
   have e2 : IntKind.u64.wrap (n64 P.pc + 2) = n64 (P.pc + 2#64) := dA P.pc 2#64
   have HN1 : Hid ((n64 X.pc = n64 (P.pc + 4#64) ∧ n64 yp = n64 (P.pc + 2#64)) ∨ n64 X.pc = n64 yp) := by
    rcases HPC.out with q | q
    ·exact .inl ⟨by rw [q.1], by rw [q.2]⟩
    ·exact .inr (by rw [q])
   generalize n64 (P.pc + 4#64) = m4 at e4 HN1
   generalize n64 (P.pc + 2#64) = m2 at e2 HN1
   have HXP : Hid (n64 X.pc = n64 X.pc) := rfl
   generalize hxp : n64 X.pc = xp at x0 HN1
   have HXQ := Hid.mk' hxp
   clear hxp HXP
   generalize hyp : n64 yp = yq at y0 HN1
   clear hyp
   --@R28
   go_cut [20] from 161 to 174 (fun v wx => ∃ bb, v = .bool bb ∧ (xp ≠ yq → bb = true) ∧ wx = W27)
   case first =>
    by_cases h1 : xp = m4
    ·have g1 : (xp == m4) = true := by rw [h1]; exact beq_self_eq_true _
     by_cases h2 : yq = m2
     ·have g2 : (yq == m2) = true := by rw [h2]; exact beq_self_eq_true _
      clear h1 h2
      go_wp2
      go_meet
      exact ⟨true, rfl, fun _ => rfl, rfl⟩
     ·have g2 : (yq == m2) = false := by rw [beq_eq_false_iff_ne]; exact h2
      have HNO : Hid (¬ xp ≠ yq) := fun e => by rcases HN1.out with q | q; exact h2 q.2; exact e q
      clear h1 h2
      go_wp2
      go_meet
      exact ⟨false, rfl, fun e => absurd e HNO.out, rfl⟩
    ·have g1 : (xp == m4) = false := by rw [beq_eq_false_iff_ne]; exact h1
     have HNO : Hid (¬ xp ≠ yq) := fun e => by rcases HN1.out with q | q; exact h1 q.1; exact e q
     clear h1
     go_wp2
     go_meet
     exact ⟨false, rfl, fun e => absurd e HNO.out, rfl⟩
   case rest =>
    obtain ⟨bb, rfl, hbb, hwc⟩ := hcut
    have hwc2 := hwc.symm
    subst hwc2
    have HBBB := Hid.mk' hbb
    clear hbb HN1 p0 e4 e2
    --@R29
    go_upto_region 29 with fail
    go_cut [183] from 175 to 182 (fun v wx => v = .bool false ∧ wx = W27)
    case first =>
     cases bb with
     | true =>
      go_wp2
      go_meet
      exact ⟨rfl, rfl⟩
     | false =>
      have hxy : xp = yq := by
       by_cases q : xp = yq
       ·exact q
       ·exact absurd (HBBB.out q) (by decide)
      have g1 : (xp != yq) = false := by rw [hxy]; simp
      clear hxy
      go_wp2
      go_meet
      exact ⟨rfl, rfl⟩
    case rest =>
     obtain ⟨rfl, hwc⟩ := hcut
     have hwc2 := hwc.symm
     subst hwc2
     clear HBBB
     have f0 := HYu.out.froz 0
     --@R31
     go_upto_region 32 with fail
     clear x0 y0 f0
     refine bT (motive := fun W => Code.wp _ _ _ _ W) (Q := fun W => (Below W0.heap.size W0 W) ∧ (Row W gx (cpc X) 31) ∧ (Row W gy (cpc X) 31) ∧ (Row W gd (dnc D) 44) ∧ (Row W ge (dnc D) 44)) ⟨aM HBu.out HGE.out.2.2 _, HXu.out.other HGE.out.1 _, by rw [← HEQ.out, ← kV, HXQ.out]; exact HYu.out.put _, HDu.out.other HGE.out.2.1.1 _, HEu.out.other HGE.out.2.1.2 _⟩ ?_
     clear HBu HXu HYu HDu HEu HPu
     rintro W31 ⟨q0, q1, q2, q3, q4⟩
     have HBt := hid q0
     have HXt := hid q1
     have HYt := hid q2
     have HDt := hid q3
     have HEt := hid q4
     clear q0 q1 q2 q3 q4

     --@R32
     go_wp2_with (first | (refine wpList_load_row (by rfl) _ _ (by rfl) gx (by rfl) 31 _ (0, 0) _ HXt.out underlying31 (by rfl) (aB _) ?_) | (refine wpList_load_row (by rfl) _ _ (by rfl) gy (by rfl) 31 _ (0, 0) _ HYt.out underlying31 (by rfl) (aB _) ?_) | (refine bA (by rfl) _ _ (by rfl) gd (by rfl) 44 _ (0, 0) _ HDt.out underlying44 (by rfl) (bE _) ?_) | (refine bA (by rfl) _ _ (by rfl) ge (by rfl) 44 _ (0, 0) _ HEt.out underlying44 (by rfl) (bE _) ?_) | (refine bO (by rfl) 31 _ _ _ (by rfl) (cpc X) (cpc X) (by rfl) (by rfl) (jX _ _) (eN _ _ _ _ _) ?_) | (refine bO (by rfl) 44 _ _ _ (by rfl) (dnc D) (dnc D) (by rfl) (by rfl) (fG _ _) (fC _ _ _ _ _) ?_))
     go_ret
     exact ⟨rfl, b0.out.trans (HBt.out.mono b0.out.size)⟩
  ·obtain ⟨q1, q2⟩ := HLX.out.2 (fun q => hlk ⟨by rw [ht]; exact decide_eq_true q.1, q.2⟩)
   rw [q1] at HEt
   have HEQ := hid q2
   obtain ⟨yp, hyp⟩ : ∃ yp, yp = Y.pc := ⟨_, rfl⟩
   rw [← hyp] at HPC
   have HYp : Hid (Y.pc = yp) := hyp.symm
   clear q1 q2 hyp HLX ht
   have HNK := Hid.mk' hlk
   clear hlk
   go_cut [143] from 136 to 142 (fun v wx => v = .bool false ∧ wx = WT)
   case first =>
    cases t with
    | false =>
     go_wp2_with (go_at_call 17; refine (HLK.out _).mono ?_; rintro e w6 ⟨rfl, hw6⟩; have hw62 := hw6.symm; subst hw62)
     go_meet
     exact ⟨rfl, rfl⟩
    | true =>
     have hr0 : D.rd = 0 := Classical.byContradiction fun q => HNK.out ⟨rfl, q⟩
     rw [hr0] at d3
     clear hr0
     go_wp2_with (go_at_call 17; refine (HLK.out _).mono ?_; rintro e w6 ⟨rfl, hw6⟩; have hw62 := hw6.symm; subst hw62)
     go_meet
     exact ⟨rfl, rfl⟩
   case rest =>
    obtain ⟨rfl, hwc⟩ := hcut
    have hwc2 := hwc.symm
    subst hwc2
    clear HNK d3 i0 HLK HRD0 hrd32
    go_upto_region 27 with fail
    have HT0r := Hid.mk' (HR0.out.later HBt.out HR0.out.lt)
    --@R27
    go_upto_region 28 with (first | (refine wpList_load_row (by rfl) _ _ (by rfl) _ (by rfl) 31 _ (0, 0) _ HT0r.out underlying31 (by rfl) (aB _) ?_) | (go_at_call 10; refine (HPc.out _).mono ?_; rintro e w6 ⟨rfl, hb6⟩; have HB6 := hid hb6; clear hb6) | (refine bP (by rfl) 31 _ _ (by rfl) (by rfl) w6 (cpc cz) (cpc P) (by rfl) (by rfl) (by rfl) (aB _) (by rw [aE, aE]) (aO _) ?_))
    refine bT (motive := fun W => Code.wp _ _ _ _ W) (Q := fun W => (Below W0.heap.size W0 W) ∧ (Row W gx (cpc X) 31) ∧ (Row W gy (cpc Y) 31) ∧ (Row W gd (dnc D) 44) ∧ (Row W ge (dnc D) 44) ∧ (Row W w6.heap.size (cpc P) 31)) ⟨(HBt.out.trans (HB6.out.mono HBt.out.size)).trans ((aG _ _).mono (ZqO HBt.out.size HB6.out.size)), (HXt.out.later HB6.out HXt.out.lt).old (HXt.out.later HB6.out HXt.out.lt).lt _, (HYt.out.later HB6.out HYt.out.lt).old (HYt.out.later HB6.out HYt.out.lt).lt _, (HDt.out.later HB6.out HDt.out.lt).old (HDt.out.later HB6.out HDt.out.lt).lt _, (HEt.out.later HB6.out HEt.out.lt).old (HEt.out.later HB6.out HEt.out.lt).lt _, Row.new _ _ _⟩ ?_
    clear HBt HXt HYt HDt HEt HB6 HT0r
    generalize w6.heap.size = gp
    rintro W27 ⟨q0, q1, q2, q3, q4, q5⟩
    have HBu := hid q0
    have HXu := hid q1
    have HYu := hid q2
    have HDu := hid q3
    have HEu := hid q4
    have HPu := hid q5
    clear q0 q1 q2 q3 q4 q5

    have x0 : W27.cell? ⟨gx, 0, none⟩ = some (.int .u64 (n64 X.pc)) := HXu.out.cls.pc
    have y0 : W27.cell? ⟨gy, 0, none⟩ = some (.int .u64 (n64 yp)) := by rw [← HYp.out]; exact HYu.out.cls.pc
    have p0 : W27.cell? ⟨gp, 0, none⟩ = some (.int .u64 (n64 P.pc)) := HPu.out.cls.pc
    have e4 : IntKind.u64.wrap (n64 P.pc + 4) = n64 (P.pc + 4#64) := dA P.pc 4#64
    have e2 : IntKind.u64.wrap (n64 P.pc + 2) = n64 (P.pc + 2#64) := dA P.pc 2#64
    have HN1 : Hid ((n64 X.pc = n64 (P.pc + 4#64) ∧ n64 yp = n64 (P.pc + 2#64)) ∨ n64 X.pc = n64 yp) := by
     rcases HPC.out with q | q
     ·exact .inl ⟨by rw [q.1], by rw [q.2]⟩
     ·exact .inr (by rw [q])
    generalize n64 (P.pc + 4#64) = m4 at e4 HN1
    generalize n64 (P.pc + 2#64) = m2 at e2 HN1
    have HXP : Hid (n64 X.pc = n64 X.pc) := rfl
    generalize hxp : n64 X.pc = xp at x0 HN1
    have HXQ := Hid.mk' hxp
    clear hxp HXP
    generalize hyp : n64 yp = yq at y0 HN1
    clear hyp
    --@R28
    go_cut [20] from 161 to 174 (fun v wx => ∃ bb, v = .bool bb ∧ (xp ≠ yq → bb = true) ∧ wx = W27)
    case first =>
     by_cases h1 : xp = m4
     ·have g1 : (xp == m4) = true := by rw [h1]; exact beq_self_eq_true _
      by_cases h2 : yq = m2
      ·have g2 : (yq == m2) = true := by rw [h2]; exact beq_self_eq_true _
       clear h1 h2
       go_wp2
       go_meet
       exact ⟨true, rfl, fun _ => rfl, rfl⟩
      ·have g2 : (yq == m2) = false := by rw [beq_eq_false_iff_ne]; exact h2
       have HNO : Hid (¬ xp ≠ yq) := fun e => by rcases HN1.out with q | q; exact h2 q.2; exact e q
       clear h1 h2
       go_wp2
       go_meet
       exact ⟨false, rfl, fun e => absurd e HNO.out, rfl⟩
     ·have g1 : (xp == m4) = false := by rw [beq_eq_false_iff_ne]; exact h1
      have HNO : Hid (¬ xp ≠ yq) := fun e => by rcases HN1.out with q | q; exact h1 q.1; exact e q
      clear h1
      go_wp2
      go_meet
      exact ⟨false, rfl, fun e => absurd e HNO.out, rfl⟩
    case rest =>
     obtain ⟨bb, rfl, hbb, hwc⟩ := hcut
     have hwc2 := hwc.symm
     subst hwc2
     have HBBB := Hid.mk' hbb
     clear hbb HN1 p0 e4 e2
     --@R29
     go_upto_region 29 with fail
     go_cut [183] from 175 to 182 (fun v wx => v = .bool false ∧ wx = W27)
     case first =>
      cases bb with
      | true =>
       go_wp2
       go_meet
       exact ⟨rfl, rfl⟩
      | false =>
       have hxy : xp = yq := by
        by_cases q : xp = yq
        ·exact q
        ·exact absurd (HBBB.out q) (by decide)
       have g1 : (xp != yq) = false := by rw [hxy]; simp
       clear hxy
       go_wp2
       go_meet
       exact ⟨rfl, rfl⟩
     case rest =>
      obtain ⟨rfl, hwc⟩ := hcut
      have hwc2 := hwc.symm
      subst hwc2
      clear HBBB
      have f0 := HYu.out.froz 0
      --@R31
      go_upto_region 32 with fail
      clear x0 y0 f0
      refine bT (motive := fun W => Code.wp _ _ _ _ W) (Q := fun W => (Below W0.heap.size W0 W) ∧ (Row W gx (cpc X) 31) ∧ (Row W gy (cpc X) 31) ∧ (Row W gd (dnc D) 44) ∧ (Row W ge (dnc D) 44)) ⟨aM HBu.out HGE.out.2.2 _, HXu.out.other HGE.out.1 _, by rw [← HEQ.out, ← kV, HXQ.out]; exact HYu.out.put _, HDu.out.other HGE.out.2.1.1 _, HEu.out.other HGE.out.2.1.2 _⟩ ?_
      clear HBu HXu HYu HDu HEu HPu
      rintro W31 ⟨q0, q1, q2, q3, q4⟩
      have HBt := hid q0
      have HXt := hid q1
      have HYt := hid q2
      have HDt := hid q3
      have HEt := hid q4
      clear q0 q1 q2 q3 q4

      --@R32
      go_wp2_with (first | (refine wpList_load_row (by rfl) _ _ (by rfl) gx (by rfl) 31 _ (0, 0) _ HXt.out underlying31 (by rfl) (aB _) ?_) | (refine wpList_load_row (by rfl) _ _ (by rfl) gy (by rfl) 31 _ (0, 0) _ HYt.out underlying31 (by rfl) (aB _) ?_) | (refine bA (by rfl) _ _ (by rfl) gd (by rfl) 44 _ (0, 0) _ HDt.out underlying44 (by rfl) (bE _) ?_) | (refine bA (by rfl) _ _ (by rfl) ge (by rfl) 44 _ (0, 0) _ HEt.out underlying44 (by rfl) (bE _) ?_) | (refine bO (by rfl) 31 _ _ _ (by rfl) (cpc X) (cpc X) (by rfl) (by rfl) (jX _ _) (eN _ _ _ _ _) ?_) | (refine bO (by rfl) 44 _ _ _ (by rfl) (dnc D) (dnc D) (by rfl) (by rfl) (fG _ _) (fC _ _ _ _ _) ?_))
      go_ret
      exact ⟨rfl, b0.out.trans (HBt.out.mono b0.out.size)⟩
end Go.Proofs.YtddlmenfcbjoaaaGreatDoor
