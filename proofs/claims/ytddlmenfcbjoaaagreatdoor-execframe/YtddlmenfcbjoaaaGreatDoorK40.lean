import Derived.Test.YtddlmenfcbjoaaaGreatDoorK39
namespace Go.Proofs.YtddlmenfcbjoaaaGreatDoor
set_option linter.unusedVariables false
set_option maxRecDepth 100000
set_option maxHeartbeats 8000000
open Go.MuLone Go.ChangeShapes Go.WideShapes Go.ChangeAt Go.RowKit Go.Deep _root_.Go.Proofs.Tryz
theorem frame_n (c : Cp) (i : Ins) (S : St) (ar ai ao : Option Addr) (cr ci co : Nat) (w : World) (hT : Tb w) (hok : S.ok = false) :
  Calls prog 7 #[.agg (cpc c), .agg (stc S (.slice ar S.ram.length cr) (.slice ai S.inp.length ci) (.slice ao S.out.length co)), .agg (inc i)] w fun e w' => e = .returned (.bool true) ∧ Below w.heap.size w w' := by
 obtain ⟨W0, hW0, r0, r1, r2, b0', -⟩ := jE w (cpc c) (stc S (.slice ar S.ram.length cr) (.slice ai S.inp.length ci) (.slice ao S.out.length co)) (inc i) 31 35 48
 have HM := Hid.mk' (qF S ar ai ao cr ci co W0 hok)
 have HI : Hid ((prog.info? 35).map (·.size) = some (stc S (.slice ar S.ram.length cr) (.slice ai S.inp.length ci) (.slice ao S.out.length co)).size) := cJ _ _ _ _
 have HF : Hid (∀ W, Below w.heap.size w W → Calls prog 9 #[] W fun e w' => e = .returned (.bool true) ∧ Below W.heap.size W w') := fun W hb => gM W (hT.next hb)
 have HR1 := Hid.mk' r1
 have b0 := Hid.mk' b0'
 clear r0 r1 r2 hok hT b0'
 generalize (stc S (.slice ar S.ram.length cr) (.slice ai S.inp.length ci) (.slice ao S.out.length co)) = cs at HM HI HR1 hW0 ⊢
 generalize cpc c = cc at hW0 ⊢
 generalize inc i = ii at hW0 ⊢
 go_enter func7, ntmps7
 go_upto_region 1 with fail
 clear hW0
 go_wp2_with (first | (refine wpList_load_row (by rfl) _ _ (by rfl) _ (by rfl) 35 _ (0, 0) _ HR1.out underlying35 (by rfl) (HI.out) ?_) | (go_at_call 8; refine HM.out.mono ?_; rintro e w1 ⟨rfl, hb⟩; have HB := Hid.mk' (b0.out.trans (hb.mono b0.out.size)); clear hb) | (go_at_call 9; refine (HF.out _ HB.out).mono ?_; rintro e w2 ⟨rfl, hb⟩; have HB2 := Hid.mk' (HB.out.trans (hb.mono HB.out.size)); clear hb))
 go_ret
 exact ⟨rfl, HB2.out⟩
theorem frame_y (c : Cp) (i : Ins) (S : St) (ar ai ao : Option Addr) (cr ci co : Nat) (w : World) (hT : Tb w) (him : I64 i.im) (hok : S.ok = true) (hw : StW S) (hs : Bs S (.slice ar S.ram.length cr) (.slice ai S.inp.length ci) (.slice ao S.out.length co) w) (lr : S.ram.length ≤ 140737488355328) (li : S.inp.length ≤ 140737488355328) (lo : S.out.length ≤ 140737488355328) :
  Calls prog 7 #[.agg (cpc c), .agg (stc S (.slice ar S.ram.length cr) (.slice ai S.inp.length ci) (.slice ao S.out.length co)), .agg (inc i)] w fun e w' => e = .returned (.bool true) ∧ Below w.heap.size w w' := by
 obtain ⟨V, hV⟩ := gZ
 obtain ⟨W0, hW0, r0, r1, r2, b0, -⟩ := jE w (cpc c) (stc S (.slice ar S.ram.length cr) (.slice ai S.inp.length ci) (.slice ao S.out.length co)) (inc i) 31 35 48
 have HM : Hid (Calls prog 8 #[.agg (stc S (.slice ar S.ram.length cr) (.slice ai S.inp.length ci) (.slice ao S.out.length co))] W0 fun e w' => ∃ L, e = .returned (.tuple #[.pointer (some ⟨L.b, 0, none⟩), .bool true]) ∧ PB W0.heap.size L S w' ∧ Below W0.heap.size W0 w') := qG S ar ai ao cr ci co W0 hok (hs.later b0) lr li lo
 have HI : Hid ((prog.info? 35).map (·.size) = some (stc S (.slice ar S.ram.length cr) (.slice ai S.inp.length ci) (.slice ao S.out.length co)).size) := cJ _ _ _ _
 have HT0 : Hid (Tb W0) := hT.next b0
 have HF : Hid (∀ W, Tb W → Calls prog 9 #[] W fun e w' => e = .returned (.bool true) ∧ Below W.heap.size W w') := fun W h => gM W h
 have HSK : Hid (Sok S) := ⟨hok, hw⟩
 have HR0 := Hid.mk' r0
 have HR1 := Hid.mk' r1
 have HR2 := Hid.mk' r2
 have HB0 := Hid.mk' b0
 have HIM := hid him
 have HV := hid hV
 have HPR : Hid (∀ (k : Cp) W, Calls prog 10 #[.agg (cpc k)] W fun e w' => e = .returned (.agg (cpc (PR k))) ∧ Below W.heap.size W w') := fun k W => jF k W
 clear r0 r1 r2 hok hw hs lr li lo hT b0 him hV
 have b0 := HB0
 generalize hcs : (stc S (.slice ar S.ram.length cr) (.slice ai S.inp.length ci) (.slice ao S.out.length co)) = cs at HM HI HR1 hW0 ⊢
 clear hcs
 have hzc := cC
 have hzd := fP
 have hzb := nV
 go_enter func7, ntmps7
 go_upto_region 1 with fail
 clear hW0
 go_upto_region 6 with (first | (refine wpList_load_row (by rfl) _ _ (by rfl) _ (by rfl) 35 _ (0, 0) _ HR1.out underlying35 (by rfl) (HI.out) ?_) | (go_at_call 8; refine HM.out.mono ?_; rintro e w1 ⟨L, rfl, hp1, hb1⟩; have HK1 : Hid (Ky W0 L.b L S w1) := ⟨hp1, rfl, hb1⟩; clear hp1 hb1) | (go_at_call 9; refine (HF.out _ (HT0.out.next HK1.out.be)).mono ?_; rintro e w3 ⟨rfl, hb3⟩; have HK3 : Hid (Ky W0 L.b L S w3) := HK1.out.later hb3; clear hb3))
 clear HK1 HM HI HR1 HF
 obtain ⟨X, hX⟩ : ∃ X, X = dC (dR (vA V) S L.b c i) c := ⟨_, rfl⟩
 obtain ⟨D, hD⟩ : ∃ D, D = dD (dR (vA V) S L.b c i) := ⟨_, rfl⟩
 obtain ⟨T, hT⟩ : ∃ T, T = (dR (vA V) S L.b c i).S := ⟨_, rfl⟩
 obtain ⟨P, hP⟩ : ∃ P, P = PR c := ⟨_, rfl⟩
 have HFR : Hid (Frm i P X S T D) := by unfold Hid; rw [hX, hD, hT, hP]; exact VU _ _ _ _ _
 have HTK : Hid (Sok T) := by unfold Hid; rw [hT]; exact GJ _ HSK.out _ _ _
 have HDO : Hid (∀ L1 W, Ky W0 L.b L1 S W → Calls prog 11 #[.agg (cpc c), .pointer (some ⟨L.b, 0, none⟩), .agg (inc i)] W fun e w' => e = .returned (.tuple #[.agg (cpc X), .agg (dnc D)]) ∧ ∃ L', PSt W0.heap.size L1 W L' T w') := fun L1 W hk => by rw [hX, hD, hT]; exact sZ HT0.out HSK.out HV.out c i HIM.out hk
 have HST : Hid (∀ L1 W, Ky W0 L.b L1 S W → Calls prog 12 #[.pointer (some ⟨L.b, 0, none⟩)] W fun e w' => ∃ ur ui uo, e = .returned (.agg (stc S ur ui uo)) ∧ Sv W.heap.size S ur ui uo w' ∧ Below W.heap.size W w') := fun L1 W hk => iN HSK.out hk
 have HSU : Hid (∀ L1 W, Ky W0 L.b L1 T W → Calls prog 12 #[.pointer (some ⟨L.b, 0, none⟩)] W fun e w' => ∃ ur ui uo, e = .returned (.agg (stc T ur ui uo)) ∧ Sv W.heap.size T ur ui uo w' ∧ Below W.heap.size W w') := fun L1 W hk => iN HTK.out hk
 have HPc : Hid (∀ W, Calls prog 10 #[.agg (cpc c)] W fun e w' => e = .returned (.agg (cpc P)) ∧ Below W.heap.size W w') := fun W => by rw [hP]; exact HPR.out c W
 have HPX : Hid (∀ W, Calls prog 10 #[.agg (cpc X)] W fun e w' => e = .returned (.agg (cpc X)) ∧ Below W.heap.size W w') := fun W => by have q := HPR.out X W; rwa [HFR.out.pr] at q
 clear hX hD hT hP HPR HV HIM
 generalize L.b = b at HDO HST HSU HK3 ⊢
 --@R6
 go_upto_region 7 with (first | (go_at_call 12; refine (HST.out _ _ HK3.out).mono ?_; rintro e w2 ⟨ur, ui, uo, rfl, hsv, hb2⟩; obtain ⟨y1, z1, y2, z2, y3, z3, rfl, rfl, rfl⟩ := hsv.bs.forms; have HSV : Hid _ := hsv; have HB2 : Hid _ := hb2; clear hsv hb2) | (refine bP (by rfl) 35 _ _ (by rfl) (by rfl) w2 (stc zST (.slice none 0 0) (.slice none 0 0) (.slice none 0 0)) (stc S (.slice y1 S.ram.length z1) (.slice y2 S.inp.length z2) (.slice y3 S.out.length z3)) (by rfl) (by rfl) (by rfl) (cJ _ _ _ _) (by rfl) (wP S) ?_))
 refine bT (motive := fun W => Code.wp _ _ _ _ W) (Q := fun W => (Ky W0 b L S W) ∧ (Ks W0 L W w2.heap.size (stc S (.slice y1 S.ram.length z1) (.slice y2 S.inp.length z2) (.slice y3 S.out.length z3)) 35) ∧ (Sb L w2.heap.size S (.slice y1 S.ram.length z1) (.slice y2 S.inp.length z2) (.slice y3 S.out.length z3) W)) ⟨(HK3.out.later HB2.out).later (aG _ _), Ks.new (HK3.out.later HB2.out) _ _, (Sb.new HK3.out.p HB2.out HSV.out).later (aG _ _)⟩ ?_
 clear HK3 HSV HB2 HST
 generalize w2.heap.size = gb
 rintro W6 ⟨q0, q1, q2⟩
 have HKX := hid q0
 have HRB := hid q1
 have HSB := hid q2
 clear q0 q1 q2

 have HX0 := Hid.mk' (HR0.out.later HKX.out.be HR0.out.lt)
 --@R7
 go_upto_region 8 with (first | (refine wpList_load_row (by rfl) _ _ (by rfl) _ (by rfl) 31 _ (0, 0) _ HX0.out underlying31 (by rfl) (aB _) ?_) | (go_at_call 10; refine (HPc.out _).mono ?_; rintro e w5 ⟨rfl, hb5⟩; have HB5 := hid hb5; clear hb5) | (refine bP (by rfl) 31 _ _ (by rfl) (by rfl) w5 (cpc cz) (cpc P) (by rfl) (by rfl) (by rfl) (aB _) (by rw [aE, aE]) (aO _) ?_))
 refine bT (motive := fun W => Code.wp _ _ _ _ W) (Q := fun W => (Ky W0 b L S W) ∧ (Ks W0 L W gb (stc S (.slice y1 S.ram.length z1) (.slice y2 S.inp.length z2) (.slice y3 S.out.length z3)) 35) ∧ (Sb L gb S (.slice y1 S.ram.length z1) (.slice y2 S.inp.length z2) (.slice y3 S.out.length z3) W) ∧ (Ks W0 L W w5.heap.size (cpc P) 31)) ⟨(HKX.out.later HB5.out).later (aG _ _), (HRB.out.later HB5.out).later (aG _ _), (HSB.out.later HB5.out).later (aG _ _), Ks.new (HKX.out.later HB5.out) _ _⟩ ?_
 clear HKX HRB HSB HB5 HX0 HPc
 generalize w5.heap.size = gp
 rintro W7 ⟨q0, q1, q2, q3⟩
 have HKX7 := hid q0
 have HRB7 := hid q1
 have HSB7 := hid q2
 have HRP := hid q3
 clear q0 q1 q2 q3

 have HKX := HKX7
 have HRB := HRB7
 have HSB := HSB7
 clear HKX7 HRB7 HSB7
 have HX0 := Hid.mk' (HR0.out.later HKX.out.be HR0.out.lt)
 have HX2 := Hid.mk' (HR2.out.later HKX.out.be HR2.out.lt)
 --@R8
 go_upto_region 9 with (first | (refine wpList_load_row (by rfl) _ _ (by rfl) _ (by rfl) 31 _ (0, 0) _ HX0.out underlying31 (by rfl) (aB _) ?_) | (refine wpList_load_row (by rfl) _ _ (by rfl) _ (by rfl) 48 _ (0, 0) _ HX2.out underlying48 (by rfl) (fW _) ?_) | (go_at_call 11; refine (HDO.out _ _ HKX.out).mono ?_; rintro e w5 ⟨rfl, L2, hp5⟩; have HP5 : Hid _ := hp5; clear hp5; have HRa := Hid.mk' (iD w5 (cpc cz) (dnc dZ) 31 44); have HRb := Hid.mk' (iE w5 (cpc cz) (cpc X) (dnc dZ) 31 44)) | (refine aA (by rfl) _ _ _ (by rfl) (by rfl) w5.heap.size _ _ (by rfl) (by rfl) HRa.out (aB _) (by rw [aE, aE]) (aO _) ?_) | (refine aA (by rfl) _ _ _ (by rfl) (by rfl) (w5.heap.size + 1) _ _ (by rfl) (by rfl) HRb.out (bE _) (eZ _ _) (dI _) ?_))
 refine bT (motive := fun W => Code.wp _ _ _ _ W) (Q := fun W => (Ky W0 b L2 T W) ∧ (Ks W0 L2 W w5.heap.size (cpc X) 31) ∧ (Ks W0 L2 W (w5.heap.size + 1) (dnc D) 44) ∧ (Ks W0 L2 W gb (stc S (.slice y1 S.ram.length z1) (.slice y2 S.inp.length z2) (.slice y3 S.out.length z3)) 35) ∧ (Sb L2 gb S (.slice y1 S.ram.length z1) (.slice y2 S.inp.length z2) (.slice y3 S.out.length z3) W) ∧ (Ks W0 L2 W gp (cpc P) 31)) ⟨(dF (HKX.out.step HP5.out) (cpc cz) (cpc X) (dnc dZ) (dnc D) 31 44).1, (dF (HKX.out.step HP5.out) (cpc cz) (cpc X) (dnc dZ) (dnc D) 31 44).2.1, (dF (HKX.out.step HP5.out) (cpc cz) (cpc X) (dnc dZ) (dnc D) 31 44).2.2.1, (dF (HKX.out.step HP5.out) (cpc cz) (cpc X) (dnc dZ) (dnc D) 31 44).2.2.2.1 _ _ _ (HRB.out.step HP5.out), (dF (HKX.out.step HP5.out) (cpc cz) (cpc X) (dnc dZ) (dnc D) 31 44).2.2.2.2 _ _ _ _ _ (HSB.out.step HP5.out), (dF (HKX.out.step HP5.out) (cpc cz) (cpc X) (dnc dZ) (dnc D) 31 44).2.2.2.1 _ _ _ (HRP.out.step HP5.out)⟩ ?_
 clear HKX HRB HSB HRP HP5 HRa HRb HX0 HX2 HDO
 generalize w5.heap.size = gx
 rintro W8 ⟨q0, q1, q2, q3, q4, q5⟩
 have HKX8 := hid q0
 have HRX := hid q1
 have HRD := hid q2
 have HRB8 := hid q3
 have HSB8 := hid q4
 have HRP8 := hid q5
 clear q0 q1 q2 q3 q4 q5

 have HKX := HKX8
 have HRB := HRB8
 have HSB := HSB8
 have HRP := HRP8
 clear HKX8 HRB8 HSB8 HRP8
 generalize hgd : gx + 1 = gd at HRD ⊢
 --@R9
 go_upto_region 10 with (first | (go_at_call 12; refine (HSU.out _ _ HKX.out).mono ?_; rintro e w2 ⟨ur, ui, uo, rfl, hsv, hb2⟩; obtain ⟨y4, z4, y5, z5, y6, z6, rfl, rfl, rfl⟩ := hsv.bs.forms; have HSV : Hid _ := hsv; have HB2 : Hid _ := hb2; clear hsv hb2) | (refine bP (by rfl) 35 _ _ (by rfl) (by rfl) w2 (stc zST (.slice none 0 0) (.slice none 0 0) (.slice none 0 0)) (stc T (.slice y4 T.ram.length z4) (.slice y5 T.inp.length z5) (.slice y6 T.out.length z6)) (by rfl) (by rfl) (by rfl) (cJ _ _ _ _) (by rfl) (wP T) ?_))
 refine bT (motive := fun W => Code.wp _ _ _ _ W) (Q := fun W => (Below W0.heap.size W0 W) ∧ (Row W gb (stc S (.slice y1 S.ram.length z1) (.slice y2 S.inp.length z2) (.slice y3 S.out.length z3)) 35) ∧ (Bs S (.slice y1 S.ram.length z1) (.slice y2 S.inp.length z2) (.slice y3 S.out.length z3) W) ∧ (Row W gp (cpc P) 31) ∧ (Row W gx (cpc X) 31) ∧ (Row W gd (dnc D) 44) ∧ (Row W w2.heap.size (stc T (.slice y4 T.ram.length z4) (.slice y5 T.inp.length z5) (.slice y6 T.out.length z6)) 35) ∧ (Bs T (.slice y4 T.ram.length z4) (.slice y5 T.inp.length z5) (.slice y6 T.out.length z6) W)) ⟨((HKX.out.later HB2.out).later (aG _ _)).be, ((HRB.out.later HB2.out).later (aG _ _)).r, ((HSB.out.later HB2.out).later (aG _ _)).b, ((HRP.out.later HB2.out).later (aG _ _)).r, ((HRX.out.later HB2.out).later (aG _ _)).r, ((HRD.out.later HB2.out).later (aG _ _)).r, Row.new _ _ _, (HSV.out.bs).later (aG _ _)⟩ ?_
 clear HKX HRB HSB HRP HRX HRD HSV HB2 HSU
 generalize w2.heap.size = ga
 rintro W9 ⟨q0, q1, q2, q3, q4, q5, q6, q7⟩
 have HBB := hid q0
 have HB4 := hid q1
 have HS4 := hid q2
 have HP4 := hid q3
 have HX4 := hid q4
 have HD4 := hid q5
 have HA4 := hid q6
 have HT4 := hid q7
 clear q0 q1 q2 q3 q4 q5 q6 q7

 have HI4 := Hid.mk' (HR2.out.later HBB.out HR2.out.lt)
 generalize hgi : w.heap.size + 2 = gi at HI4 ⊢
 clear hgi hgd HR0 HR2
 have HG0 : Hid (W0.heap.size ≤ W9.heap.size) := HBB.out.size
 have lx := HX4.out.lt
 have lp := HP4.out.lt
 have ld := HD4.out.lt
 have lI := HI4.out.lt
 --@R10
 go_cut [59] from 46 to 58 (fun v wx => v = .bool false ∧ Below W9.heap.size W9 wx)
 case first =>
  have HAX : Hid (∀ j v, (cpc X)[j]? = some v → W9.cell? ⟨gx, 0 + j, none⟩ = some v) := HX4.out.agg
  have HAP : Hid (∀ j v, (cpc P)[j]? = some v → W9.cell? ⟨gp, 0 + j, none⟩ = some v) := HP4.out.agg
  have d0 : W9.cell? ⟨gd, 0, none⟩ = some (.bool D.t.is) := HD4.out.cell 0
  have heg := OS
  have heq : ∀ W, (Op.equalIn 10000 31 (.agg (cpc X)) (.agg (cpc X))).run prog W = .ok true W := fun W => jX W X
  have := aS W9
  cases htr : D.t.is with
  | true =>
   have eP := HFR.out.tr htr
   have HAP2 : Hid (∀ j v, (cpc X)[j]? = some v → W9.cell? ⟨gp, 0 + j, none⟩ = some v) := by unfold Hid; rw [eP]; exact HAP.out
   rw [htr] at d0
   have L0 : ∀ x : bB W9, x.1.cell? ⟨gd, 0, none⟩ = some (.bool true) := cG ld d0
   clear eP htr HAP HFR
   go_upto_region 10 with fail
   refine bN (x0 := bB.start W9) (by kernel_rfl) (by kernel_rfl) ?_
   repeat (first | (refine ZqN (by rfl) fun KK hK => ?_; refine bD 31 _ (by rfl) gx 0 (by rfl) (cpc X) _ lx HAX.out underlying31 (by rfl) (aB _) (hK _ ?_); clear hK KK; simp only [Act.put, ZqA, ZqC, ZqB]) | (refine ZqN (by rfl) fun KK hK => ?_; refine bD 31 _ (by rfl) gp 0 (by rfl) (cpc X) _ lp HAP2.out underlying31 (by rfl) (aB _) (hK _ ?_); clear hK KK; simp only [Act.put, ZqA, ZqC, ZqB]) | go_big_quiet_step (first | (go_at_call 10; exact bJ (HPX.out _))))
   refine wpQuiet_nil ?_
   rintro w' ⟨x9, rfl⟩
   go_wp2_with fail
   go_meet
   exact ⟨rfl, x9.below⟩
  | false =>
   rw [htr] at d0
   have L0 : ∀ x : bB W9, x.1.cell? ⟨gd, 0, none⟩ = some (.bool false) := cG ld d0
   clear htr HAP HFR
   go_upto_region 10 with fail
   refine bN (x0 := bB.start W9) (by kernel_rfl) (by kernel_rfl) ?_
   repeat (first | (refine ZqN (by rfl) fun KK hK => ?_; refine bD 31 _ (by rfl) gx 0 (by rfl) (cpc X) _ lx HAX.out underlying31 (by rfl) (aB _) (hK _ ?_); clear hK KK; simp only [Act.put, ZqA, ZqC, ZqB]) | go_big_quiet_step (first | (go_at_call 10; exact bJ (HPX.out _))))
   refine wpQuiet_nil ?_
   rintro w' ⟨x9, rfl⟩
   go_wp2_with fail
   go_meet
   exact ⟨rfl, x9.below⟩
 case rest =>
  obtain ⟨rfl, hb10⟩ := hcut
  obtain ⟨W10, hW10⟩ : ∃ W10, W10 = wc := ⟨_, rfl⟩
  rw [← hW10] at hb10 ⊢
  clear hW10
  have HBB2 := Hid.mk' (HBB.out.trans (hb10.mono HBB.out.size))
  have HB5 := Hid.mk' (HB4.out.later hb10 HB4.out.lt)
  have HS5 : Hid (Bs S (.slice y1 S.ram.length z1) (.slice y2 S.inp.length z2) (.slice y3 S.out.length z3) W10) := HS4.out.later hb10
  have HP5 := Hid.mk' (HP4.out.later hb10 lp)
  have HX5 := Hid.mk' (HX4.out.later hb10 lx)
  have HD5 := Hid.mk' (HD4.out.later hb10 ld)
  have HA5 := Hid.mk' (HA4.out.later hb10 HA4.out.lt)
  have HT5 : Hid (Bs T (.slice y4 T.ram.length z4) (.slice y5 T.inp.length z5) (.slice y6 T.out.length z6) W10) := HT4.out.later hb10
  have HI5 := Hid.mk' (HI4.out.later hb10 lI)
  clear HBB HB4 HS4 HP4 HX4 HD4 HA4 HT4 HI4 hb10 lx lp ld lI HPX
  have HD3 : Hid (∀ W, Below W10.heap.size W10 W → W.cell? ⟨gd, 3, none⟩ = some (.int .i64 D.rd)) := fun W hb => (HD5.out.later hb HD5.out.lt).cell 3
  have HI1 : Hid (∀ W, Below W10.heap.size W10 W → W.cell? ⟨gi, 1, none⟩ = some (.int .i64 i.rd)) := fun W hb => (HI5.out.later hb HI5.out.lt).cell 1
  have HXc : Hid (∀ W, Below W10.heap.size W10 W → ∀ j, j < 32 → W.cell? ⟨gx, 1 + j, none⟩ = some (.int .u64 (n64 (X.x j)))) := fun W hb j hj => (HX5.out.later hb HX5.out.lt).xj j hj
  have HPc : Hid (∀ W, Below W10.heap.size W10 W → ∀ j, j < 32 → W.cell? ⟨gp, 1 + j, none⟩ = some (.int .u64 (n64 (P.x j)))) := fun W hb j hj => (HP5.out.later hb HP5.out.lt).xj j hj
  --@R12
  go_upto_region 13 with fail
  go_loopw [14] (fun vi wr => ∃ j : Nat, j ≤ 32 ∧ vi = .int .i64 j ∧ Hid (Below W10.heap.size W10 wr)) (fun i _ => 32 - (intOf i).toNat)
  case atStart => exact ⟨0, by omega, rfl, ZqD _ _⟩
  case round =>
   obtain ⟨j, hj, rfl, HBw⟩ := hrel
   by_cases hlt : j < 32
   ·have hltI : (j : Int) < 32 := by omega
    have kx := HXc.out wr HBw.out j hlt
    have kp := HPc.out wr HBw.out j hlt
    by_cases hd : X.x j = P.x j
    ·rw [hd] at kx
     generalize n64 (P.x j) = q1 at kx kp
     clear hd
     --@R15
     go_upto_region 15 with fail
     go_quiet (fail)
     go_wp2
     go_roundw
     ·exact ⟨j + 1, by omega, by go_num, below_drewN HBw.out _⟩
     ·simp only [intOf]; omega
    ·have hrr : D.rd = (j : Int) ∧ i.rd = (j : Int) := by
      rcases HFR.out.x with ⟨q1, q2⟩ | ⟨q1, q2, q3, q4⟩
      ·exact absurd (by rw [q2]) hd
      ·by_cases e : i.rd.toNat = j
       ·omega
       ·exact absurd (by rw [q4]; unfold upd; rw [if_neg (fun h => e h.symm)]) hd
     have hne : (n64 (X.x j) != n64 (P.x j)) = true := by rw [bne_iff_ne]; exact fun h => hd (bV.1 h)
     have d3 := HD3.out wr HBw.out
     have i1 := HI1.out wr HBw.out
     rw [hrr.1] at d3
     rw [hrr.2] at i1
     generalize n64 (P.x j) = q1 at kp hne
     generalize n64 (X.x j) = q2 at kx hne
     clear hrr hd
     go_upto_region 15 with fail
     go_quiet (fail)
     go_wp2
     go_roundw
     ·exact ⟨j + 1, by omega, by go_num, below_drewN HBw.out _⟩
     ·simp only [intOf]; omega
   ·have hltI : ¬ (j : Int) < 32 := by omega
    clear hj hlt
    have d3 := HD3.out wr HBw.out
    have i1 := HI1.out wr HBw.out
    have d4 : wr.cell? ⟨gd, 4, none⟩ = some (.int .u64 (n64 D.v)) := (HD5.out.later HBw.out HD5.out.lt).cell 4
    --@R17
    go_upto_region 17 with fail
    go_cut [114] from 85 to 113 (fun v wx => v = .bool false ∧ Below wr.heap.size wr wx)
    case first =>
     rcases HFR.out.x with ⟨q1, q2⟩ | ⟨q1, q2, q3, q4⟩
     ·rw [q1] at d3
      clear q1 q2 HFR
      go_quiet (fail)
      go_wp2_with fail
      go_meet
      exact ⟨rfl, below_drewN (ZqD _ _) _⟩
     ·obtain ⟨r, hr⟩ : ∃ r : Nat, i.rd = (r : Int) := ⟨i.rd.toNat, by omega⟩
      have hr32 : r < 32 := by omega
      have hrI : (r : Int) < 32 := by omega
      have hr0 : ¬ (r : Int) < 0 := by omega
      have hr31 : ¬ (31 : Int) < r := by omega
      have hrn : ((r : Int) != 0) = true := by rw [bne_iff_ne]; omega
      have kx := HXc.out wr HBw.out r hr32
      have hxv : X.x r = D.v := by rw [q4, hr]; show upd P.x r D.v r = D.v; unfold upd; rw [if_pos rfl]
      rw [hxv] at kx
      rw [q1, hr] at d3
      rw [hr] at i1
      generalize n64 D.v = q5 at kx d4
      clear q1 q2 q3 q4 hr hxv HFR
      go_quiet (fail)
      go_wp2_with fail
      go_meet
      exact ⟨rfl, below_drewN (ZqD _ _) _⟩
    case rest =>
     obtain ⟨rfl, hb17⟩ := hcut
     obtain ⟨W17, hW17⟩ : ∃ W17, W17 = wc := ⟨_, rfl⟩
     rw [← hW17] at hb17 ⊢
     clear hW17
     have hb17' := HBw.out.trans (hb17.mono HBw.out.size)
     have HBB3 := Hid.mk' (HBB2.out.trans (hb17'.mono HBB2.out.size))
     have HB6 := Hid.mk' (HB5.out.later hb17' HB5.out.lt)
     have HS6 : Hid (Bs S (.slice y1 S.ram.length z1) (.slice y2 S.inp.length z2) (.slice y3 S.out.length z3) W17) := HS5.out.later hb17'
     have HP6 := Hid.mk' (HP5.out.later hb17' HP5.out.lt)
     have HX6 := Hid.mk' (HX5.out.later hb17' HX5.out.lt)
     have HD6 := Hid.mk' (HD5.out.later hb17' HD5.out.lt)
     have HA6 := Hid.mk' (HA5.out.later hb17' HA5.out.lt)
     have HT6 : Hid (Bs T (.slice y4 T.ram.length z4) (.slice y5 T.inp.length z5) (.slice y6 T.out.length z6) W17) := HT5.out.later hb17'
     have HI6 := Hid.mk' (HI5.out.later hb17' HI5.out.lt)
     clear hb17 hb17' HBB2 HB5 HS5 HP5 HX5 HD5 HA5 HT5 HI5 HBw d3 i1 d4 HXc HPc HD3 HI1
     have HBB2 := HBB3
     have HB5 := HB6
     have HS5 := HS6
     have HP5 := HP6
     have HX5 := HX6
     have HD5 := HD6
     have HA5 := HA6
     have HT5 := HT6
     have HI5 := HI6
     clear HBB3 HB6 HS6 HP6 HX6 HD6 HA6 HT6 HI6
     have d5 : W17.cell? ⟨gd, 5, none⟩ = some (.int .i64 D.me) := HD5.out.cell 5
     have d6 : W17.cell? ⟨gd, 6, none⟩ = some (.int .u64 (n64 D.ad)) := HD5.out.cell 6
     have d7 : W17.cell? ⟨gd, 7, none⟩ = some (.int .i64 D.sz) := HD5.out.cell 7
     obtain ⟨Z, HZ1, HZ2, HZ3, HZ4⟩ : ∃ Z : Nat, Hid (Z ≤ 8) ∧ Hid ((D.me = 0 ∧ Z = 0) ∨ (D.me = 1 ∧ Z = 0) ∨ ((D.me = 2 ∨ D.me = 3) ∧ D.sz = (Z : Int))) ∧ Hid (T.ram.length = S.ram.length) ∧ Hid (∀ j, j < S.ram.length → T.ram.getD j 0 ≠ S.ram.getD j 0 → 0 < Z ∧ n64 D.ad ≤ 2147483648 + (j : Int) ∧ 2147483648 + (j : Int) < n64 D.ad + Z) := by
      rcases HFR.out.m with ⟨q1, q2⟩ | ⟨q1, q2⟩ | ⟨q1, z, q2, q3, q4, q5⟩
      ·exact ⟨0, (show (0 : Nat) ≤ 8 by omega), .inl ⟨q1, rfl⟩, (show T.ram.length = S.ram.length by rw [q2]), fun j _ h => absurd (by rw [q2]) h⟩
      ·exact ⟨0, (show (0 : Nat) ≤ 8 by omega), .inr (.inl ⟨q1, rfl⟩), (show T.ram.length = S.ram.length by rw [q2]), fun j _ h => absurd (by rw [q2]) h⟩
      ·exact ⟨z, q3, .inr (.inr ⟨q1, q4⟩), q5.1, fun j hj h => ⟨q2, q5.2 j hj h⟩⟩
     --@R19
     obtain ⟨t, HTT⟩ : ∃ t : Bool, Hid (((D.me = 0 ∨ D.me = 1) ∧ t = false ∧ Z = 0) ∨ ((D.me = 2 ∨ D.me = 3) ∧ t = true ∧ D.sz = (Z : Int))) := by
      rcases HZ2.out with ⟨q1, q2⟩ | ⟨q1, q2⟩ | ⟨q1, q2⟩
      ·exact ⟨false, .inl ⟨.inl q1, rfl, q2⟩⟩
      ·exact ⟨false, .inl ⟨.inr q1, rfl, q2⟩⟩
      ·exact ⟨true, .inr ⟨q1, rfl, q2⟩⟩
     go_upto_region 20 with fail
     go_cut [118] from 115 to 117 (fun v wx => v = .bool t ∧ wx = W17)
     case first =>
      rcases HTT.out with ⟨q1 | q1, q2, q3⟩ | ⟨q1 | q1, q2, q3⟩
      all_goals
       rw [q1] at d5
       have HQ2 := Hid.mk' q2
       clear q1 q2 q3 HZ2 HZ4 HFR HTT
       go_wp2
       go_meet
       exact ⟨by rw [HQ2.out]; kernel_rfl, rfl⟩
     case rest =>
      obtain ⟨rfl, hwc⟩ := hcut
      have hwc2 := hwc.symm
      subst hwc2
      --@R21
      go_upto_if 118 with fail
      go_cut [15] from 119 to 120 (fun v wx => v = .int .i64 (Z : Int) ∧ wx = W17)
      case first =>
       rcases HTT.out with ⟨q1, q2, q3⟩ | ⟨q1, q2, q3⟩
       ·subst q2
        have HQ3 := Hid.mk' q3
        clear q1 q3 HZ2 HZ4 HFR HTT d7
        go_wp2
        go_meet
        exact ⟨by rw [HQ3.out]; rfl, rfl⟩
       ·subst q2
        rw [q3] at d7
        clear q1 q3 HZ2 HZ4 HFR HTT
        go_wp2
        go_meet
        exact ⟨rfl, rfl⟩
      case rest =>
       obtain ⟨rfl, hwc⟩ := hcut
       have hwc2 := hwc.symm
       subst hwc2
       have HRM := Hid.mk' (ram_c S.ram T.ram _ _ D.ad Z W17 HS5.out.r HT5.out.r HZ3.out (by have := HSK.out.n.1; omega) HZ1.out HZ4.out)
       have b0c : W17.cell? ⟨gb, 0, none⟩ = some (.slice y1 S.ram.length z1) := HB5.out.cell 0
       have a0c : W17.cell? ⟨ga, 0, none⟩ = some (.slice y4 T.ram.length z4) := HA5.out.cell 0
       clear HZ1 HZ3 HZ4 d7 HTT
       go_upto_region 22 with fail
       --@R22b
       --@R22
       go_upto_region 24 with (go_at_call 18; refine HRM.out.mono ?_; rintro e w22 ⟨rfl, hb22⟩; have HB22 := Hid.mk' hb22; clear hb22)
       clear b0c a0c d6 HRM d5
       have HBB3 := Hid.mk' (HBB2.out.trans (HB22.out.mono HBB2.out.size))
       have HB6 := Hid.mk' (HB5.out.later HB22.out HB5.out.lt)
       have HS6 : Hid (Bs S (.slice y1 S.ram.length z1) (.slice y2 S.inp.length z2) (.slice y3 S.out.length z3) w22) := HS5.out.later HB22.out
       have HP6 := Hid.mk' (HP5.out.later HB22.out HP5.out.lt)
       have HX6 := Hid.mk' (HX5.out.later HB22.out HX5.out.lt)
       have HD6 := Hid.mk' (HD5.out.later HB22.out HD5.out.lt)
       have HA6 := Hid.mk' (HA5.out.later HB22.out HA5.out.lt)
       have HT6 : Hid (Bs T (.slice y4 T.ram.length z4) (.slice y5 T.inp.length z5) (.slice y6 T.out.length z6) w22) := HT5.out.later HB22.out
       have HI6 := Hid.mk' (HI5.out.later HB22.out HI5.out.lt)
       clear HB22 HBB2 HB5 HS5 HP5 HX5 HD5 HA5 HT5 HI5
       have HBB2 := HBB3
       have HB5 := HB6
       have HS5 := HS6
       have HP5 := HP6
       have HX5 := HX6
       have HD5 := HD6
       have HA5 := HA6
       have HT5 := HT6
       have HI5 := HI6
       clear HBB3 HB6 HS6 HP6 HX6 HD6 HA6 HT6 HI6
       have d5 : w22.cell? ⟨gd, 5, none⟩ = some (.int .i64 D.me) := HD5.out.cell 5
       --@R24
       go_cut [138] from 130 to 137 (fun v wx => v = .bool false ∧ Below w22.heap.size w22 wx)
       case first =>
        by_cases hme : D.me = 0
        ·have eT : T = S := by
          rcases HFR.out.m with ⟨q1, q2⟩ | ⟨q1, q2⟩ | ⟨q1, z, q2, q3, q4, q5⟩
          ·exact q2
          ·omega
          ·omega
         rw [hme] at d5
         subst eT
         have HAL := Hid.mk' (oQ T _ _ _ _ _ _ w22 HS5.out HT5.out)
         clear hme HFR HZ2
         go_wp2_with (first | (refine bA (by rfl) _ _ (by rfl) gb (by rfl) 35 _ (0, 0) _ HB5.out underlying35 (by rfl) (cJ _ _ _ _) ?_) | (refine bA (by rfl) _ _ (by rfl) ga (by rfl) 35 _ (0, 0) _ HA5.out underlying35 (by rfl) (cJ _ _ _ _) ?_) | (go_at_call 13; refine HAL.out.mono ?_; rintro e w9 ⟨rfl, hb9⟩; have HB9 := Hid.mk' hb9; clear hb9))
         go_meet
         exact ⟨rfl, HB9.out⟩
        ·have hne : (D.me == 0) = false := by rw [beq_eq_false_iff_ne]; exact hme
         clear HFR HZ2 hme
         go_wp2
         go_meet
         exact ⟨rfl, ZqD _ _⟩
       case rest =>
        obtain ⟨rfl, hb24⟩ := hcut
        obtain ⟨W24, hW24⟩ : ∃ W24, W24 = wc := ⟨_, rfl⟩
        rw [← hW24] at hb24 ⊢
        clear hW24
        have HB6 := Hid.mk' (HBB2.out.trans (hb24.mono HBB2.out.size))
        have HP6 := Hid.mk' (HP5.out.later hb24 HP5.out.lt)
        have HX6 := Hid.mk' (HX5.out.later hb24 HX5.out.lt)
        have HI6 := Hid.mk' (HI5.out.later hb24 HI5.out.lt)
        have HYE : Hid ((56 ≤ i.op ∧ i.op ≤ 61) ∨ yC i.op P X = P) := yC_eq HFR.out.kp
        clear hb24 HBB2 HP5 HX5 HI5 HD5 HB5 HA5 HS5 HT5 HFR d5 HZ2 HSK HTK HT0
        --@R26
        go_upto_region 27 with (first | (refine wpList_load_row (by rfl) _ _ (by rfl) gx (by rfl) 31 _ (0, 0) _ HX6.out underlying31 (by rfl) (aB _) ?_) | (refine bP (by rfl) 31 _ _ (by rfl) (by rfl) W24 (cpc cz) (cpc X) (by rfl) (by rfl) (by rfl) (aB _) (by rw [aE, aE]) (aO _) ?_))
        refine bT (motive := fun W => Code.wp _ _ _ _ W) (Q := fun W => (Below W0.heap.size W0 W) ∧ (Row W gp (cpc P) 31) ∧ (Row W W24.heap.size (cpc X) 31) ∧ (Row W gi (inc i) 48) ∧ (gp ≠ W24.heap.size ∧ gi ≠ W24.heap.size ∧ W0.heap.size ≤ W24.heap.size)) ⟨HB6.out.trans ((aG _ _).mono HB6.out.size), HP6.out.old HP6.out.lt _, Row.new _ _ _, HI6.out.old HI6.out.lt _, ⟨Nat.ne_of_lt HP6.out.lt, Nat.ne_of_lt HI6.out.lt, HB6.out.size⟩⟩ ?_
        clear HB6 HP6 HX6 HI6
        generalize W24.heap.size = gy
        rintro W26 ⟨q0, q1, q2, q3, q4⟩
        have HB7 := hid q0
        have HP7 := hid q1
        have HY7 := hid q2
        have HI7 := hid q3
        have HNE := hid q4
        clear q0 q1 q2 q3 q4
        have hgy : gp ≠ gy ∧ gi ≠ gy ∧ W0.heap.size ≤ gy := HNE.out
        have HPA : Hid (∀ j v, (gV P.x)[j]? = some v → W26.cell? ⟨gp, 1 + j, none⟩ = some v) := qR HP7.out
        have HTH : Hid (W26.there gy 1 (gV P.x).size) := HY7.out.there (by rw [jT, aE]; omega)
        --@R27
        go_upto_region 28 with (first | (refine aY (by rfl) _ _ (by rfl) gp 1 (by rfl) (gV P.x) _ HPA.out underlying23 (by rfl) (lO _) ?_) | (refine aX (by rfl) 23 _ _ (by rfl) (by rfl) gy 1 (gV P.x) (by rfl) (by rfl) HTH.out (lO _) (EG _) ?_))
        refine bT (motive := fun W => Code.wp _ _ _ _ W) (Q := fun W => (Below W0.heap.size W0 W) ∧ (Row W gp (cpc P) 31) ∧ (Row W gy (cpc { X with x := P.x }) 31) ∧ (Row W gi (inc i) 48)) ⟨cZ hgy.2.2 (gV P.x).toList 1 HB7.out, HP7.out.lays hgy.1 (gV P.x).toList 1, by rw [← VT]; exact HY7.out.lay _ _, HI7.out.lays hgy.2.1 (gV P.x).toList 1⟩ ?_
        clear HB7 HP7 HY7 HI7 HPA HTH HNE
        rintro W27 ⟨q0, q1, q2, q3⟩
        have HB8 := hid q0
        have HP8 := hid q1
        have HY8 := hid q2
        have HI8 := hid q3
        clear q0 q1 q2 q3
        have p0 : W27.cell? ⟨gp, 0, none⟩ = some (.int .u64 (n64 P.pc)) := HP8.out.cls.pc
        have y0 : W27.cell? ⟨gy, 0, none⟩ = some (.int .u64 (n64 X.pc)) := HY8.out.cls.pc
        have f0 := HY8.out.froz 0
        --@R28
        go_upto_region 29 with fail
        refine bT (motive := fun W => Code.wp _ _ _ _ W) (Q := fun W => (Below W0.heap.size W0 W) ∧ (Row W gp (cpc P) 31) ∧ (Row W gy (cpc { ({ X with x := P.x } : Cp) with pc := P.pc }) 31) ∧ (Row W gi (inc i) 48)) ⟨aM HB8.out hgy.2.2 _, HP8.out.other hgy.1 _, by rw [← kV]; exact HY8.out.put _, HI8.out.other hgy.2.1 _⟩ ?_
        clear HB8 HP8 HY8 HI8 p0 y0 f0
        rintro W28 ⟨q0, q1, q2, q3⟩
        have HB9 := hid q0
        have HP9 := hid q1
        have HY9 := hid q2
        have HI9 := hid q3
        clear q0 q1 q2 q3
        have HPR9 : Hid (∀ j v, (#[.bool P.rv, .int .u64 (n64 P.ra), .int .i64 P.rs] : Array Value)[j]? = some v → W28.cell? ⟨gp, 79 + j, none⟩ = some v) := yJ HP9.out
        have HTR : Hid (W28.there gy 79 (#[.bool P.rv, .int .u64 (n64 P.ra), .int .i64 P.rs] : Array Value).size) := HY9.out.there (by rw [aE]; show 79 + 3 ≤ 82; omega)
        --@R29
        go_upto_region 30 with (first | (refine aY (by rfl) _ _ (by rfl) gp 79 (by rfl) (#[.bool P.rv, .int .u64 (n64 P.ra), .int .i64 P.rs]) _ HPR9.out underlying29 (by rfl) (by kernel_rfl) ?_) | (refine aX (by rfl) 29 _ _ (by rfl) (by rfl) gy 79 (#[.bool P.rv, .int .u64 (n64 P.ra), .int .i64 P.rs]) (by rfl) (by rfl) HTR.out (by kernel_rfl) (by kernel_rfl) ?_))
        refine bT (motive := fun W => Code.wp _ _ _ _ W) (Q := fun W => (Below W0.heap.size W0 W) ∧ (Row W gp (cpc P) 31) ∧ (Row W gy (cpc { ({ ({ X with x := P.x } : Cp) with pc := P.pc } : Cp) with rv := P.rv, ra := P.ra, rs := P.rs }) 31) ∧ (Row W gi (inc i) 48)) ⟨cZ hgy.2.2 [.bool P.rv, .int .u64 (n64 P.ra), .int .i64 P.rs] 79 HB9.out, HP9.out.lays hgy.1 [.bool P.rv, .int .u64 (n64 P.ra), .int .i64 P.rs] 79, by rw [← iP]; exact HY9.out.lay _ _, HI9.out.lays hgy.2.1 [.bool P.rv, .int .u64 (n64 P.ra), .int .i64 P.rs] 79⟩ ?_
        clear HB9 HP9 HY9 HI9 HPR9 HTR
        rintro W29 ⟨q0, q1, q2, q3⟩
        have HB3 := hid q0
        have HP3 := hid q1
        have HY3 := hid q2
        have HI3 := hid q3
        clear q0 q1 q2 q3
        have i0 : W29.cell? ⟨gi, 0, none⟩ = some (.int .i64 i.op) := HI3.out.cell 0
        --@R30
        by_cases h55 : i.op = 55
        ·have eY : yC i.op P X = { ({ ({ ({ X with x := P.x } : Cp) with pc := P.pc } : Cp) with rv := P.rv, ra := P.ra, rs := P.rs } : Cp) with wt := P.wt } := by unfold yC; rw [if_neg (by omega), if_pos h55, if_neg (by omega)]
         have p34 : W29.cell? ⟨gp, 34, none⟩ = some (.bool P.wt) := HP3.out.cls.wt
         have y34 : W29.cell? ⟨gy, 34, none⟩ = some (.bool X.wt) := HY3.out.cls.wt
         have f34 := HY3.out.froz 34
         have e54 : (i.op == 54) = false := by rw [beq_eq_false_iff_ne]; omega
         have e55 : (i.op == 55) = true := by rw [h55]; rfl
         clear h55
         go_upto_region 32 with fail
         refine bT (motive := fun W => Code.wp _ _ _ _ W) (Q := fun W => (Below W0.heap.size W0 W) ∧ (Row W gp (cpc P) 31) ∧ (Row W gy (cpc (yC i.op P X)) 31) ∧ (Row W gi (inc i) 48)) ⟨aM HB3.out hgy.2.2 _, HP3.out.other hgy.1 _, by rw [eY, ← GG]; exact HY3.out.put _, HI3.out.other hgy.2.1 _⟩ ?_
         clear HB3 HP3 HY3 HI3 p34 y34 f34 i0
         rintro W31 ⟨q0, q1, q2, q3⟩
         have HB4 := hid q0
         have HP4 := hid q1
         have HY4 := hid q2
         have HI4 := hid q3
         clear q0 q1 q2 q3
         have HB3 := HB4
         have HP3 := HP4
         have HY3 := HY4
         have HI3 := HI4
         clear HB4 HP4 HY4 HI4 eY
         have HPy := Hid.mk' HP3.out
         have HCS : Hid ((56 ≤ i.op ∧ i.op ≤ 61) ∨ yC i.op P X = P) := HYE
         generalize hYY : yC i.op P X = Y at HY3 HCS
         clear hYY HYE
         have i0 : W31.cell? ⟨gi, 0, none⟩ = some (.int .i64 i.op) := HI3.out.cell 0
         by_cases hq : cpc Y = cpc P
         ·obtain ⟨r, hr, hr2⟩ := jV W31 9996 Y P
          have hrt : r = true := hr2.2 hq
          subst hrt
          go_wp2_with (first | (refine wpList_load_row (by rfl) _ _ (by rfl) gy (by rfl) 31 _ (0, 0) _ HY3.out underlying31 (by rfl) (aB _) ?_) | (refine wpList_load_row (by rfl) _ _ (by rfl) gp (by rfl) 31 _ (0, 0) _ HP3.out underlying31 (by rfl) (aB _) ?_) | (refine eC (by rfl) 31 _ _ _ (by rfl) (cpc Y) (cpc P) (by rfl) (by rfl) true hr (eN _ _ _ _ _) ?_))
          go_ret
          exact ⟨rfl, b0.out.trans (HB3.out.mono b0.out.size)⟩
         ·have h56 : 56 ≤ i.op ∧ i.op ≤ 61 := by
           rcases HCS.out with e | e
           ·exact e
           ·exact absurd (by rw [e]) hq
          obtain ⟨r, hr, hr2⟩ := jV W31 9996 Y P
          have hrt : r = false := by
           cases r with
           | false => rfl
           | true => exact absurd (hr2.1 rfl) hq
          subst hrt
          have HCO := Hid.mk' (tL i.op h56 W31)
          clear h56 hq HCS hr2
          go_wp2_with (first | (refine wpList_load_row (by rfl) _ _ (by rfl) gy (by rfl) 31 _ (0, 0) _ HY3.out underlying31 (by rfl) (aB _) ?_) | (refine wpList_load_row (by rfl) _ _ (by rfl) gp (by rfl) 31 _ (0, 0) _ HP3.out underlying31 (by rfl) (aB _) ?_) | (refine eC (by rfl) 31 _ _ _ (by rfl) (cpc Y) (cpc P) (by rfl) (by rfl) false hr (eN _ _ _ _ _) ?_) | (go_at_call 19; refine HCO.out.mono ?_; rintro e w9 ⟨rfl, hw9⟩; have hw92 := hw9.symm; subst hw92))
          go_ret
          exact ⟨rfl, b0.out.trans (HB3.out.mono b0.out.size)⟩
        by_cases h54 : i.op = 54
        ·have eY : yC i.op P X = { ({ ({ ({ ({ X with x := P.x } : Cp) with pc := P.pc } : Cp) with rv := P.rv, ra := P.ra, rs := P.rs } : Cp) with md := P.md } : Cp) with s := upd X.s 0 (P.s 0) } := by unfold yC; rw [if_pos h54, if_neg (by omega), if_pos h54]
         have p33 : W29.cell? ⟨gp, 33, none⟩ = some (.int .i64 P.md) := HP3.out.cls.md
         have y33 : W29.cell? ⟨gy, 33, none⟩ = some (.int .i64 X.md) := HY3.out.cls.md
         have f33 := HY3.out.froz 33
         have e54 : (i.op == 54) = true := by rw [h54]; rfl
         have e55 : (i.op == 55) = false := by rw [beq_eq_false_iff_ne]; omega
         clear h55 h54
         go_upto_region 34 with fail
         refine bT (motive := fun W => Code.wp _ _ _ _ W) (Q := fun W => (Below W0.heap.size W0 W) ∧ (Row W gp (cpc P) 31) ∧ (Row W gy (cpc { ({ ({ ({ X with x := P.x } : Cp) with pc := P.pc } : Cp) with rv := P.rv, ra := P.ra, rs := P.rs } : Cp) with md := P.md }) 31) ∧ (Row W gi (inc i) 48)) ⟨aM HB3.out hgy.2.2 _, HP3.out.other hgy.1 _, by rw [← xK]; exact HY3.out.put _, HI3.out.other hgy.2.1 _⟩ ?_
         clear HB3 HP3 HY3 HI3 p33 y33 f33 i0
         rintro W33 ⟨q0, q1, q2, q3⟩
         have HB4 := hid q0
         have HP4 := hid q1
         have HY4 := hid q2
         have HI4 := hid q3
         clear q0 q1 q2 q3
         have p35 : W33.cell? ⟨gp, 35, none⟩ = some (.int .u64 (n64 (P.s 0))) := HP4.out.cls.s0
         have y35 : W33.cell? ⟨gy, 35, none⟩ = some (.int .u64 (n64 (X.s 0))) := HY4.out.cls.s0
         have f35 := HY4.out.froz 35
         go_upto_region 35 with fail
         refine bT (motive := fun W => Code.wp _ _ _ _ W) (Q := fun W => (Below W0.heap.size W0 W) ∧ (Row W gp (cpc P) 31) ∧ (Row W gy (cpc (yC i.op P X)) 31) ∧ (Row W gi (inc i) 48)) ⟨aM HB4.out hgy.2.2 _, HP4.out.other hgy.1 _, by rw [eY, ← mQ _ 0 (by decide)]; exact HY4.out.put _, HI4.out.other hgy.2.1 _⟩ ?_
         clear HB4 HP4 HY4 HI4 p35 y35 f35
         rintro W34 ⟨q0, q1, q2, q3⟩
         have HB3 := hid q0
         have HP3 := hid q1
         have HY3 := hid q2
         have HI3 := hid q3
         clear q0 q1 q2 q3
         clear eY
         have HPy := Hid.mk' HP3.out
         have HCS : Hid ((56 ≤ i.op ∧ i.op ≤ 61) ∨ yC i.op P X = P) := HYE
         generalize hYY : yC i.op P X = Y at HY3 HCS
         clear hYY HYE
         have i0 : W34.cell? ⟨gi, 0, none⟩ = some (.int .i64 i.op) := HI3.out.cell 0
         by_cases hq : cpc Y = cpc P
         ·obtain ⟨r, hr, hr2⟩ := jV W34 9996 Y P
          have hrt : r = true := hr2.2 hq
          subst hrt
          go_wp2_with (first | (refine wpList_load_row (by rfl) _ _ (by rfl) gy (by rfl) 31 _ (0, 0) _ HY3.out underlying31 (by rfl) (aB _) ?_) | (refine wpList_load_row (by rfl) _ _ (by rfl) gp (by rfl) 31 _ (0, 0) _ HP3.out underlying31 (by rfl) (aB _) ?_) | (refine eC (by rfl) 31 _ _ _ (by rfl) (cpc Y) (cpc P) (by rfl) (by rfl) true hr (eN _ _ _ _ _) ?_))
          go_ret
          exact ⟨rfl, b0.out.trans (HB3.out.mono b0.out.size)⟩
         ·have h56 : 56 ≤ i.op ∧ i.op ≤ 61 := by
           rcases HCS.out with e | e
           ·exact e
           ·exact absurd (by rw [e]) hq
          obtain ⟨r, hr, hr2⟩ := jV W34 9996 Y P
          have hrt : r = false := by
           cases r with
           | false => rfl
           | true => exact absurd (hr2.1 rfl) hq
          subst hrt
          have HCO := Hid.mk' (tL i.op h56 W34)
          clear h56 hq HCS hr2
          go_wp2_with (first | (refine wpList_load_row (by rfl) _ _ (by rfl) gy (by rfl) 31 _ (0, 0) _ HY3.out underlying31 (by rfl) (aB _) ?_) | (refine wpList_load_row (by rfl) _ _ (by rfl) gp (by rfl) 31 _ (0, 0) _ HP3.out underlying31 (by rfl) (aB _) ?_) | (refine eC (by rfl) 31 _ _ _ (by rfl) (cpc Y) (cpc P) (by rfl) (by rfl) false hr (eN _ _ _ _ _) ?_) | (go_at_call 19; refine HCO.out.mono ?_; rintro e w9 ⟨rfl, hw9⟩; have hw92 := hw9.symm; subst hw92))
          go_ret
          exact ⟨rfl, b0.out.trans (HB3.out.mono b0.out.size)⟩
        ·have eY : yC i.op P X = ({ ({ ({ X with x := P.x } : Cp) with pc := P.pc } : Cp) with rv := P.rv, ra := P.ra, rs := P.rs } : Cp) := by unfold yC; rw [if_neg h54, if_neg h55, if_neg h54]
         have e54 : (i.op == 54) = false := by rw [beq_eq_false_iff_ne]; exact h54
         have e55 : (i.op == 55) = false := by rw [beq_eq_false_iff_ne]; exact h55
         rw [← eY] at HY3
         clear h55 h54 eY
         clear i0
         have HPy := Hid.mk' HP3.out
         have HCS : Hid ((56 ≤ i.op ∧ i.op ≤ 61) ∨ yC i.op P X = P) := HYE
         generalize hYY : yC i.op P X = Y at HY3 HCS
         clear hYY HYE
         have i0 : W29.cell? ⟨gi, 0, none⟩ = some (.int .i64 i.op) := HI3.out.cell 0
         by_cases hq : cpc Y = cpc P
         ·obtain ⟨r, hr, hr2⟩ := jV W29 9996 Y P
          have hrt : r = true := hr2.2 hq
          subst hrt
          go_wp2_with (first | (refine wpList_load_row (by rfl) _ _ (by rfl) gy (by rfl) 31 _ (0, 0) _ HY3.out underlying31 (by rfl) (aB _) ?_) | (refine wpList_load_row (by rfl) _ _ (by rfl) gp (by rfl) 31 _ (0, 0) _ HP3.out underlying31 (by rfl) (aB _) ?_) | (refine eC (by rfl) 31 _ _ _ (by rfl) (cpc Y) (cpc P) (by rfl) (by rfl) true hr (eN _ _ _ _ _) ?_))
          go_ret
          exact ⟨rfl, b0.out.trans (HB3.out.mono b0.out.size)⟩
         ·have h56 : 56 ≤ i.op ∧ i.op ≤ 61 := by
           rcases HCS.out with e | e
           ·exact e
           ·exact absurd (by rw [e]) hq
          obtain ⟨r, hr, hr2⟩ := jV W29 9996 Y P
          have hrt : r = false := by
           cases r with
           | false => rfl
           | true => exact absurd (hr2.1 rfl) hq
          subst hrt
          have HCO := Hid.mk' (tL i.op h56 W29)
          clear h56 hq HCS hr2
          go_wp2_with (first | (refine wpList_load_row (by rfl) _ _ (by rfl) gy (by rfl) 31 _ (0, 0) _ HY3.out underlying31 (by rfl) (aB _) ?_) | (refine wpList_load_row (by rfl) _ _ (by rfl) gp (by rfl) 31 _ (0, 0) _ HP3.out underlying31 (by rfl) (aB _) ?_) | (refine eC (by rfl) 31 _ _ _ (by rfl) (cpc Y) (cpc P) (by rfl) (by rfl) false hr (eN _ _ _ _ _) ?_) | (go_at_call 19; refine HCO.out.mono ?_; rintro e w9 ⟨rfl, hw9⟩; have hw92 := hw9.symm; subst hw92))
          go_ret
          exact ⟨rfl, b0.out.trans (HB3.out.mono b0.out.size)⟩
end Go.Proofs.YtddlmenfcbjoaaaGreatDoor
