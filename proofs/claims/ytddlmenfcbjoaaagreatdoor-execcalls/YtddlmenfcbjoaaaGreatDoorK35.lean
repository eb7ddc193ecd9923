import Derived.Test.YtddlmenfcbjoaaaGreatDoorK34
import Derived.Deep.CutRange
namespace Go.Proofs.YtddlmenfcbjoaaaGreatDoor
set_option linter.unusedVariables false
set_option maxRecDepth 100000
set_option maxHeartbeats 8000000
open Go.MuLone Go.ChangeShapes Go.WideShapes Go.ChangeAt Go.RowKit Go.Deep _root_.Go.Proofs.Tryz
theorem GP (x y : Operand) (u v : Array Value) (w : World) : (eqGuard .eql 42 x y (.agg u) (.agg v)).run prog w = .ok () w := by kernel_rfl
theorem eN (x y : Operand) (u v : Array Value) (w : World) : (eqGuard .eql 31 x y (.agg u) (.agg v)).run prog w = .ok () w := by kernel_rfl
theorem sH {o : Oper} {a : Act} (t t2 : TypeId) (x y : Operand) (ho : o.op = .binOp .eql t x y t2) (u v : Array Value) (hx : a.eval x = .agg u) (hy : a.eval y = .agg v) (r : Bool) (w9 : World) (he : (Op.equalIn 10000 t (.agg u) (.agg v)).run prog w9 = .ok r w9) (hg : (eqGuard .eql t x y (.agg u) (.agg v)).run prog w9 = .ok () w9) : (execOp a.eval o).run prog w9 = .ok (.value (.bool r)) w9 := by
 unfold execOp
 simp only [ho, hx, hy]
 go_simp
theorem dF {w0 : World} {b : Nat} {L : Lay} {S : St} {w : World} (h : Ky w0 b L S w) (a a' d d' : Array Value) (t t' : TypeId) :
  Ky w0 b L S ((((w.alloc (.cells a t)).alloc (.cells d t')).setRow w.heap.size a').setRow (w.heap.size + 1) d') ∧ Ks w0 L ((((w.alloc (.cells a t)).alloc (.cells d t')).setRow w.heap.size a').setRow (w.heap.size + 1) d') w.heap.size a' t ∧ Ks w0 L ((((w.alloc (.cells a t)).alloc (.cells d t')).setRow w.heap.size a').setRow (w.heap.size + 1) d') (w.heap.size + 1) d' t'
  ∧ (∀ g cs u, Ks w0 L w g cs u → Ks w0 L ((((w.alloc (.cells a t)).alloc (.cells d t')).setRow w.heap.size a').setRow (w.heap.size + 1) d') g cs u) ∧ (∀ N S' vr vi vo, Sb L N S' vr vi vo w → Sb L N S' vr vi vo ((((w.alloc (.cells a t)).alloc (.cells d t')).setRow w.heap.size a').setRow (w.heap.size + 1) d')) := by
 have h1 := h.later (aG w (.cells a t))
 have k1 := Ks.new h a t
 have h2 := h1.later (aG _ (.cells d t'))
 have k1' := k1.later (aG _ (.cells d t'))
 have k2 : Ks w0 L ((w.alloc (.cells a t)).alloc (.cells d t')) (w.heap.size + 1) d t' := by have q := Ks.new h1 d t'; simpa using q
 have h3 := h2.row k1' a'
 have k2' := k2.far (show w.heap.size + 1 ≠ w.heap.size by omega) a'
 refine ⟨h3.row k2' d', (k1'.put a').far (by omega) d', k2'.put d', fun g cs u hk => ?_, fun N S' vr vi vo hs => ?_⟩
 ·have hlt := hk.r.lt
  exact (((hk.later (aG _ _)).later (aG _ _)).far (by omega) a').far (by omega) d'
 ·have hl := hs.l
  exact (((hs.later (aG _ _)).later (aG _ _)).row (by omega) a').row (by omega) d'
theorem iD (w : World) (a d : Array Value) (t t' : TypeId) : Row ((w.alloc (.cells a t)).alloc (.cells d t')) w.heap.size a t := (Row.new w a t).old (by simp) _
theorem iE (w : World) (a a' d : Array Value) (t t' : TypeId) : Row (((w.alloc (.cells a t)).alloc (.cells d t')).setRow w.heap.size a') (w.heap.size + 1) d t' := by
 have q : Row ((w.alloc (.cells a t)).alloc (.cells d t')) (w.heap.size + 1) d t' := by have q := Row.new (w.alloc (.cells a t)) d t'; simpa using q
 exact (setRow_other _ _ _ _ (by omega)).trans q
theorem Row.xj {w : World} {g : Nat} {k : Cp} {t : TypeId} (h : Row w g (cpc k) t) (j : Nat) (hj : j < 32) : w.cell? ⟨g, 1 + j, none⟩ = some (.int .u64 (n64 (k.x j))) := by rw [h.cell, bG _ _ (by omega), fV _ _ hj]
theorem AA {w : World} {g : Nat} {d : Dd} (h : Row w g (dnc d) 44) : ∀ j v, (tpc d.t)[j]? = some v → w.cell? ⟨g, 0 + j, none⟩ = some v := fun j v hv => by
 rw [ZqU, h.cell]
 match j, hv with
 | 0, hv => exact hv
 | 1, hv => exact hv
 | 2, hv => exact hv
 | j + 3, hv => cases hv
theorem iN {w0 : World} {b : Nat} {L : Lay} {T : St} {W : World} (ht : Sok T) (hk : Ky w0 b L T W) : Calls prog 12 #[.pointer (some ⟨b, 0, none⟩)] W fun e w' => ∃ ur ui uo, e = .returned (.agg (stc T ur ui uo)) ∧ Sv W.heap.size T ur ui uo w' ∧ Below W.heap.size W w' := by
 obtain ⟨hn1, hn2, hn3, hn4, _⟩ := ht.n
 have q := RN W hk.p (by omega) (by omega) (by omega)
 rw [hk.e] at q
 exact q
theorem sZ {w0 : World} {b : Nat} {L : Lay} {T : St} {W : World} (h0 : Tb w0) (ht : Sok T) {V : ZqZ} (hV : CV V) (c : Cp) (i : Ins) (him : I64 i.im) (hk : Ky w0 b L T W) : Calls prog 11 #[.agg (cpc c), .pointer (some ⟨b, 0, none⟩), .agg (inc i)] W fun e w' => e = .returned (.tuple #[.agg (cpc (dC (dR V T b c i) c)), .agg (dnc (dD (dR V T b c i)))]) ∧ ∃ L', PSt w0.heap.size L W L' (dR V T b c i).S w' := by
 have q := BO W hk.p ht (h0.next hk.be) h0.lt hV c i him
 rw [hk.e] at q
 exact q
theorem precise_y (c : Cp) (i : Ins) (S : St) (ar ai ao : Option Addr) (cr ci co : Nat) (w : World) (hT : Tb w) (him : I64 i.im) (hok : S.ok = true) (hw : StW S) (hs : Bs S (.slice ar S.ram.length cr) (.slice ai S.inp.length ci) (.slice ao S.out.length co) w) (lr : S.ram.length ≤ 140737488355328) (li : S.inp.length ≤ 140737488355328) (lo : S.out.length ≤ 140737488355328) :
  Calls prog 4 #[.agg (cpc c), .agg (stc S (.slice ar S.ram.length cr) (.slice ai S.inp.length ci) (.slice ao S.out.length co)), .agg (inc i)] w fun e w' => e = .returned (.bool true) ∧ Below w.heap.size w w' := by
 obtain ⟨V, hV⟩ := gZ
 obtain ⟨W0, hW0, r0, r1, r2, b0, -⟩ := jE w (cpc c) (stc S (.slice ar S.ram.length cr) (.slice ai S.inp.length ci) (.slice ao S.out.length co)) (inc i) 31 35 48
 have HM : Hid (Calls prog 8 #[.agg (stc S (.slice ar S.ram.length cr) (.slice ai S.inp.length ci) (.slice ao S.out.length co))] W0 fun e w' => ∃ L, e = .returned (.tuple #[.pointer (some ⟨L.b, 0, none⟩), .bool true]) ∧ PB W0.heap.size L S w' ∧ Below W0.heap.size W0 w') := qG S ar ai ao cr ci co W0 hok (hs.later b0) lr li lo
 have HI : Hid ((prog.info? 35).map (·.size) = some (stc S (.slice ar S.ram.length cr) (.slice ai S.inp.length ci) (.slice ao S.out.length co)).size) := cJ _ _ _ _
 have HT0 : Hid (Tb W0) := hT.next b0
 have HF : Hid (∀ W, Tb W → Calls prog 9 #[] W fun e w' => e = .returned (.bool true) ∧ Below W.heap.size W w') := fun W h => gM W h
 have HSK : Hid (Sok S) := ⟨hok, hw⟩
 have HR0 := Hid.mk' r0
 have HR1 := Hid.mk' r1
 have HR2 := Hid.mk' r2
 have HB0 := Hid.mk' b0
 have HIM := hid him
 have HV := hid hV
 have HPR : Hid (∀ W, Calls prog 10 #[.agg (cpc c)] W fun e w' => e = .returned (.agg (cpc (PR c))) ∧ Below W.heap.size W w') := fun W => jF c W
 clear r0 r1 r2 hok hw hs lr li lo hT b0 him hV
 have b0 := HB0
 generalize hcs : (stc S (.slice ar S.ram.length cr) (.slice ai S.inp.length ci) (.slice ao S.out.length co)) = cs at HM HI HR1 hW0 ⊢
 clear hcs
 go_enter func4, ntmps4
 go_upto_region 1 with fail
 clear hW0
 go_upto_region 6 with (first | (refine wpList_load_row (by rfl) _ _ (by rfl) _ (by rfl) 35 _ (0, 0) _ HR1.out underlying35 (by rfl) (HI.out) ?_) | (go_at_call 8; refine HM.out.mono ?_; rintro e w1 ⟨L, rfl, hp1, hb1⟩; have HK1 : Hid (Ky W0 L.b L S w1) := ⟨hp1, rfl, hb1⟩; clear hp1 hb1) | (go_at_call 9; refine (HF.out _ (HT0.out.next HK1.out.be)).mono ?_; rintro e w3 ⟨rfl, hb3⟩; have HK3 : Hid (Ky W0 L.b L S w3) := HK1.out.later hb3; clear hb3))
 clear HK1 HM HI HR1 HF
 obtain ⟨R, hR⟩ : ∃ R, R = dR (vA V) S L.b c i := ⟨_, rfl⟩
 have HDO : Hid (∀ L1 W, Ky W0 L.b L1 S W → Calls prog 11 #[.agg (cpc c), .pointer (some ⟨L.b, 0, none⟩), .agg (inc i)] W fun e w' => e = .returned (.tuple #[.agg (cpc (dC R c)), .agg (dnc (dD R))]) ∧ ∃ L', PSt W0.heap.size L1 W L' R.S w') := fun L1 W hk => by rw [hR]; exact sZ HT0.out HSK.out HV.out c i HIM.out hk
 have HTR : Hid (R.t.is = true → R.S = S ∧ dC R c = PR c ∧ dD R = dT (tS R.t.ca R.t.tv) ∧ okC R.t.ca) := fun h => by rw [hR] at h ⊢; exact oY h
 have HNO : Hid (R.t.is = false → (dD R).t = tN) := fun h => by rw [hR] at h ⊢; obtain ⟨_, h2, h3⟩ := oV h; rw [h2]; exact h3
 have HTD : Hid (dD R = dD R) := rfl
 clear hR HIM HV
 have hzc := cC
 have hzd := fP
 have hzb := nV
 have hzt := bU
 have HST : Hid (∀ L1 W, Ky W0 L.b L1 S W → Calls prog 12 #[.pointer (some ⟨L.b, 0, none⟩)] W fun e w' => ∃ ur ui uo, e = .returned (.agg (stc S ur ui uo)) ∧ Sv W.heap.size S ur ui uo w' ∧ Below W.heap.size W w') := fun L1 W hk => iN HSK.out hk
 generalize L.b = b at HDO HST HK3 ⊢
 go_upto_region 7 with (first | (go_at_call 12; refine (HST.out _ _ HK3.out).mono ?_; rintro e w2 ⟨ur, ui, uo, rfl, hsv, hb2⟩; obtain ⟨y1, z1, y2, z2, y3, z3, rfl, rfl, rfl⟩ := hsv.bs.forms; have HSV : Hid _ := hsv; have HB2 : Hid _ := hb2; clear hsv hb2) | (refine bP (by rfl) 35 _ _ (by rfl) (by rfl) w2 (stc zST (.slice none 0 0) (.slice none 0 0) (.slice none 0 0)) (stc S (.slice y1 S.ram.length z1) (.slice y2 S.inp.length z2) (.slice y3 S.out.length z3)) (by rfl) (by rfl) (by rfl) (cJ _ _ _ _) (by rfl) (wP S) ?_))
 refine bT (motive := fun W => Code.wp _ _ _ _ W) (Q := fun W => (Ky W0 b L S W) ∧ (Ks W0 L W w2.heap.size (stc S (.slice y1 S.ram.length z1) (.slice y2 S.inp.length z2) (.slice y3 S.out.length z3)) 35) ∧ (Sb L w2.heap.size S (.slice y1 S.ram.length z1) (.slice y2 S.inp.length z2) (.slice y3 S.out.length z3) W)) ⟨(HK3.out.later HB2.out).later (aG _ _), Ks.new (HK3.out.later HB2.out) _ _, (Sb.new HK3.out.p HB2.out HSV.out).later (aG _ _)⟩ ?_
 clear HK3 HSV HB2
 generalize w2.heap.size = gb
 rintro W6 ⟨q0, q1, q2⟩
 have HKX := hid q0
 have HRB := hid q1
 have HSB := hid q2
 clear q0 q1 q2

 have HX0 := Hid.mk' (HR0.out.later HKX.out.be HR0.out.lt)
 have HX2 := Hid.mk' (HR2.out.later HKX.out.be HR2.out.lt)
 go_upto_region 8 with (first | (refine wpList_load_row (by rfl) _ _ (by rfl) _ (by rfl) 31 _ (0, 0) _ HX0.out underlying31 (by rfl) (aB _) ?_) | (refine wpList_load_row (by rfl) _ _ (by rfl) _ (by rfl) 48 _ (0, 0) _ HX2.out underlying48 (by rfl) (fW _) ?_) | (go_at_call 11; refine (HDO.out _ _ HKX.out).mono ?_; rintro e w5 ⟨rfl, L2, hp5⟩; have HP5 : Hid _ := hp5; clear hp5; have HRa := Hid.mk' (iD w5 (cpc cz) (dnc dZ) 31 44); have HRb := Hid.mk' (iE w5 (cpc cz) (cpc (dC R c)) (dnc dZ) 31 44)) | (refine aA (by rfl) _ _ _ (by rfl) (by rfl) w5.heap.size _ _ (by rfl) (by rfl) HRa.out (aB _) (by rw [aE, aE]) (aO _) ?_) | (refine aA (by rfl) _ _ _ (by rfl) (by rfl) (w5.heap.size + 1) _ _ (by rfl) (by rfl) HRb.out (bE _) (eZ _ _) (dI _) ?_))
 refine bT (motive := fun W => Code.wp _ _ _ _ W) (Q := fun W => (Ky W0 b L2 R.S W) ∧ (Ks W0 L2 W w5.heap.size (cpc (dC R c)) 31) ∧ (Ks W0 L2 W (w5.heap.size + 1) (dnc (dD R)) 44) ∧ (Ks W0 L2 W gb (stc S (.slice y1 S.ram.length z1) (.slice y2 S.inp.length z2) (.slice y3 S.out.length z3)) 35) ∧ (Sb L2 gb S (.slice y1 S.ram.length z1) (.slice y2 S.inp.length z2) (.slice y3 S.out.length z3) W)) ⟨(dF (HKX.out.step HP5.out) (cpc cz) (cpc (dC R c)) (dnc dZ) (dnc (dD R)) 31 44).1, (dF (HKX.out.step HP5.out) (cpc cz) (cpc (dC R c)) (dnc dZ) (dnc (dD R)) 31 44).2.1, (dF (HKX.out.step HP5.out) (cpc cz) (cpc (dC R c)) (dnc dZ) (dnc (dD R)) 31 44).2.2.1, (dF (HKX.out.step HP5.out) (cpc cz) (cpc (dC R c)) (dnc dZ) (dnc (dD R)) 31 44).2.2.2.1 _ _ _ (HRB.out.step HP5.out), (dF (HKX.out.step HP5.out) (cpc cz) (cpc (dC R c)) (dnc dZ) (dnc (dD R)) 31 44).2.2.2.2 _ _ _ _ _ (HSB.out.step HP5.out)⟩ ?_
 clear HKX HRB HSB HP5 HRa HRb HX0 HX2 HDO HST
 generalize w5.heap.size = gx
 rintro W7 ⟨q0, q1, q2, q3, q4⟩
 have HKX7 := hid q0
 have HRX := hid q1
 have HRD := hid q2
 have HRB7 := hid q3
 have HSB7 := hid q4
 clear q0 q1 q2 q3 q4

 have HKX := HKX7
 have HRB := HRB7
 have HSB := HSB7
 clear HKX7 HRB7 HSB7
 cases hti : R.t.is with
 | false =>
  have e1 := HNO.out hti
  have HTO : Hid (∀ j v, (tpc tN)[j]? = some v → W7.cell? ⟨gx + 1, 0 + j, none⟩ = some v) := fun j v hv => AA HRD.out.r j v (by rw [e1]; exact hv)
  have c0 : W7.cell? ⟨gx + 1, 0, none⟩ = some (.bool false) := HTO.out 0 _ rfl
  clear e1 hti HTR HNO
  go_wp2_with (first | (refine aY (by rfl) _ _ (by rfl) (gx + 1) 0 (by rfl) (tpc tN) _ HTO.out underlying42 (by rfl) (aD _) ?_) | (refine aC (by rfl) 42 _ (by rfl) (tpc tN) (by kernel_rfl) ?_) | (refine bO (by rfl) 42 _ _ _ (by rfl) (tpc tN) (tpc tN) (by rfl) (by rfl) (OT _ _) (GP _ _ _ _ _) ?_))
  go_ret
  exact ⟨rfl, b0.out.trans (HKX.out.be.mono b0.out.size)⟩
 | true =>
  obtain ⟨e1, e2, e3, e4⟩ := HTR.out hti
  obtain ⟨T, hTT⟩ : ∃ T, T = tS R.t.ca R.t.tv := ⟨_, rfl⟩
  have HKX2 : Hid (Ky W0 b L2 S W7) := by unfold Hid; rw [← e1]; exact HKX.out
  have HRX2 : Hid (Ks W0 L2 W7 gx (cpc (PR c)) 31) := by unfold Hid; rw [← e2]; exact HRX.out
  have HRD2 : Hid (Ks W0 L2 W7 (gx + 1) (dnc (dT T)) 44) := by unfold Hid; rw [hTT, ← e3]; exact HRD.out
  have HCA : Hid (okC T.ca) := by unfold Hid; rw [hTT]; exact e4
  have hTi : T.is = true := by rw [hTT]; rfl
  clear HKX HRX HRD e1 e2 e3 e4 hti HTR HNO hTT
  have HKX := HKX2
  have HRX := HRX2
  have HRD := HRD2
  clear HKX2 HRX2 HRD2
  generalize PR c = P at HRX HPR
  have HTO : Hid (∀ j v, (tpc T)[j]? = some v → W7.cell? ⟨gx + 1, 0 + j, none⟩ = some v) := fun j v hv => AA (d := dT T) HRD.out.r j v hv
  have c0 : W7.cell? ⟨gx + 1, 0, none⟩ = some (.bool true) := by rw [← hTi]; exact HTO.out 0 _ rfl
  clear hTi
  generalize hgd : gx + 1 = gd at HRD HTO c0 ⊢
  go_upto_region 11 with (first | (refine aY (by rfl) _ _ (by rfl) gd 0 (by rfl) (tpc T) _ HTO.out underlying42 (by rfl) (aD _) ?_) | (refine bP (by rfl) 42 _ _ (by rfl) (by rfl) W7 (tpc tN) (tpc T) (by rfl) (by rfl) (by rfl) (aD _) (bC _ _) (aN _) ?_))
  refine bT (motive := fun W => Code.wp _ _ _ _ W) (Q := fun W => (Ky W0 b L2 S W) ∧ (Ks W0 L2 W gx (cpc P) 31) ∧ (Ks W0 L2 W gd (dnc (dT T)) 44) ∧ (Ks W0 L2 W gb (stc S (.slice y1 S.ram.length z1) (.slice y2 S.inp.length z2) (.slice y3 S.out.length z3)) 35) ∧ (Sb L2 gb S (.slice y1 S.ram.length z1) (.slice y2 S.inp.length z2) (.slice y3 S.out.length z3) W) ∧ (Ks W0 L2 W W7.heap.size (tpc T) 42)) ⟨HKX.out.later (aG _ _), HRX.out.later (aG _ _), HRD.out.later (aG _ _), HRB.out.later (aG _ _), HSB.out.later (aG _ _), Ks.new HKX.out _ _⟩ ?_
  clear HKX HRX HRD HRB HSB c0 HTO
  generalize W7.heap.size = gt
  rintro W9 ⟨q0, q1, q2, q3, q4, q5⟩
  have HKX9 := hid q0
  have HRX9 := hid q1
  have HRD9 := hid q2
  have HRB9 := hid q3
  have HSB9 := hid q4
  have HRT := hid q5
  clear q0 q1 q2 q3 q4 q5

  have HKX := HKX9
  have HRX := HRX9
  have HRD := HRD9
  have HRB := HRB9
  have HSB := HSB9
  clear HKX9 HRX9 HRD9 HRB9 HSB9
  have t1 : W9.cell? ⟨gt, 1, none⟩ = some (.int .u64 T.ca) := HRT.out.r.cell 1
  go_cut [13] from 49 to 61 (fun v wx => v = .bool true ∧ wx = W9)
  case first =>
   have hca := HCA.out
   generalize T.ca = ca at t1 hca
   unfold okC at hca
   by_cases h8 : 2 ≤ ca ∧ ca ≤ 8
   ·obtain ⟨g1, g2⟩ := h8
    clear hca
    go_wp2
    go_meet
    exact ⟨rfl, rfl⟩
   ·obtain rfl : ca = 11 := by omega
    clear hca h8
    go_wp2
    go_meet
    exact ⟨rfl, rfl⟩
  case rest =>
   obtain ⟨rfl, hwc⟩ := hcut
   have hwc2 := hwc.symm
   subst hwc2
   clear t1 HCA
   go_upto_region 12 with fail
   have hS0 : Row W9.drew gd (dnc (dT T)) 44 ∧ Row W9.drew gt (tpc T) 42 ∧ Row W9.drew gx (cpc P) 31 ∧ Row W9.drew w.heap.size (cpc c) 31 ∧ Row W9.drew gb (stc S (.slice y1 S.ram.length z1) (.slice y2 S.inp.length z2) (.slice y3 S.out.length z3)) 35 := ⟨HRD.out.r, HRT.out.r, HRX.out.r, HR0.out.later (HKX.out.later (ZqD _ _).drew).be HR0.out.lt, HRB.out.r⟩
   refine wp_region_held (S := fun w' => Row w' gd (dnc (dT T)) 44 ∧ Row w' gt (tpc T) 42 ∧ Row w' gx (cpc P) 31 ∧ Row w' w.heap.size (cpc c) 31 ∧ Row w' gb (stc S (.slice y1 S.ram.length z1) (.slice y2 S.inp.length z2) (.slice y3 S.out.length z3)) 35) (by kernel_rfl) ?_
   change wpAnyH _ _ _ _ _ _ _ _ W9.drew
   refine aF 0 (some 62) (v := .bool true) rfl (by kernel_rfl) (by kernel_rfl) (by kernel_rfl) (by kernel_rfl) (fun _ _ _ h => h) (Or.inl ⟨by rfl, fun w9 hSw => by go_simp⟩) hS0 ?_
   try simp only [Act.put, ZqA, ZqB, ZqC]
   refine aF 1 (some 63) (v := .bool true) rfl (by kernel_rfl) (by kernel_rfl) (by kernel_rfl) (by kernel_rfl) (fun _ _ _ h => h) (Or.inl ⟨by rfl, fun w9 hSw => by go_simp⟩) hS0 ?_
   try simp only [Act.put, ZqA, ZqB, ZqC]
   refine aF 2 (some 64) (v := .agg (dnc (dT T))) rfl (by kernel_rfl) (by kernel_rfl) (by kernel_rfl) (by kernel_rfl) (fun _ _ _ h => h) (Or.inl ⟨by rfl, fun w9 hSw => ?_⟩) hS0 ?_
   ·have q := bQ (P := prog) 44 gd (dnc (dT T)) _ w9 hSw.1 underlying44 (by rfl) (bE _)
    unfold execOp
    exact q
   try simp only [Act.put, ZqA, ZqB, ZqC]
   refine aF 3 (some 65) (v := .agg (tpc T)) rfl (by kernel_rfl) (by kernel_rfl) (by kernel_rfl) (by kernel_rfl) (fun _ _ _ h => h) (Or.inl ⟨by rfl, fun w9 hSw => ?_⟩) hS0 ?_
   ·have q := bQ (P := prog) 42 gt (tpc T) _ w9 hSw.2.1 underlying42 (by rfl) (aD _)
    unfold execOp
    exact q
   try simp only [Act.put, ZqA, ZqB, ZqC]
   refine aF 4 (some 66) (v := .agg (dnc (dT T))) rfl (by kernel_rfl) (by kernel_rfl) (by kernel_rfl) (by kernel_rfl) (fun _ _ _ h => h) (Or.inl ⟨by rfl, fun w9 hSw => gO 44 _ rfl (dnc (dT T)) (by kernel_rfl) w9⟩) hS0 ?_
   try simp only [Act.put, ZqA, ZqB, ZqC]
   refine aF 5 (some 67) (v := .bool true) rfl (by kernel_rfl) (by kernel_rfl) (by kernel_rfl) (by kernel_rfl) (fun _ _ _ h => h) (Or.inl ⟨by rfl, fun w9 hSw => sH 44 _ _ _ rfl (dnc (dT T)) (dnc (dT T)) rfl rfl true w9 (fG w9 _) (fC _ _ _ _ _)⟩) hS0 ?_
   try simp only [Act.put, ZqA, ZqB, ZqC]
   refine aF 6 (some 68) (v := .bool true) rfl (by kernel_rfl) (by kernel_rfl) (by kernel_rfl) (by kernel_rfl) (fun _ _ _ h => h) (Or.inl ⟨by rfl, fun w9 hSw => by go_simp⟩) hS0 ?_
   try simp only [Act.put, ZqA, ZqB, ZqC]
   refine aF 7 (some 69) (v := .bool true) rfl (by kernel_rfl) (by kernel_rfl) (by kernel_rfl) (by kernel_rfl) (fun _ _ _ h => h) (Or.inl ⟨by rfl, fun w9 hSw => by go_simp⟩) hS0 ?_
   try simp only [Act.put, ZqA, ZqB, ZqC]
   refine aF 8 (some 70) (v := .agg (cpc P)) rfl (by kernel_rfl) (by kernel_rfl) (by kernel_rfl) (by kernel_rfl) (fun _ _ _ h => h) (Or.inl ⟨by rfl, fun w9 hSw => ?_⟩) hS0 ?_
   ·have q := bQ (P := prog) 31 gx (cpc P) _ w9 hSw.2.2.1 underlying31 (by rfl) (aB _)
    unfold execOp
    exact q
   try simp only [Act.put, ZqA, ZqB, ZqC]
   refine aF 9 (some 71) (v := .agg (cpc c)) rfl (by kernel_rfl) (by kernel_rfl) (by kernel_rfl) (by kernel_rfl) (fun _ _ _ h => h) (Or.inl ⟨by rfl, fun w9 hSw => ?_⟩) hS0 ?_
   ·have q := bQ (P := prog) 31 w.heap.size (cpc c) _ w9 hSw.2.2.2.1 underlying31 (by rfl) (aB _)
    unfold execOp
    exact q
   try simp only [Act.put, ZqA, ZqB, ZqC]
   refine wpAnyH_ready (rs := [10]) (by kernel_rfl) (by simp) ?_
   refine AllReadyH.cons (o := _) rfl (fun KK hKK => ?_) AllReadyH.nil
   rw [if_pos (by rfl)]
   go_simp
   go_at_call 10
   refine (HPR.out _).mono ?_
   rintro e w6 ⟨rfl, hb6⟩
   have hb6' : Below W9.heap.size W9 w6 := ((ZqD _ _).drew).trans hb6
   have hS6 : Row w6 gd (dnc (dT T)) 44 ∧ Row w6 gt (tpc T) 42 ∧ Row w6 gx (cpc P) 31 ∧ Row w6 w.heap.size (cpc c) 31 ∧ Row w6 gb (stc S (.slice y1 S.ram.length z1) (.slice y2 S.inp.length z2) (.slice y3 S.out.length z3)) 35 := ⟨(HRD.out.later hb6').r, (HRT.out.later hb6').r, (HRX.out.later hb6').r, HR0.out.later (HKX.out.later hb6').be HR0.out.lt, (HRB.out.later hb6').r⟩
   refine hKK.out _ _ hS6 (fun _ => ?_)
   try simp only [Act.put, ZqA, ZqB, ZqC]
   refine aF 11 (some 73) (v := .bool true) rfl (by kernel_rfl) (by kernel_rfl) (by kernel_rfl) (by kernel_rfl) (fun _ _ _ h => h) (Or.inl ⟨by rfl, fun w9 hSw => sH 31 _ _ _ rfl (cpc P) (cpc P) rfl rfl true w9 (jX w9 _) (eN _ _ _ _ _)⟩) hS6 ?_
   try simp only [Act.put, ZqA, ZqB, ZqC]
   refine aF 12 (some 74) (v := .bool true) rfl (by kernel_rfl) (by kernel_rfl) (by kernel_rfl) (by kernel_rfl) (fun _ _ _ h => h) (Or.inl ⟨by rfl, fun w9 hSw => by go_simp⟩) hS6 ?_
   try simp only [Act.put, ZqA, ZqB, ZqC]
   refine aF 13 (some 75) (v := .bool true) rfl (by kernel_rfl) (by kernel_rfl) (by kernel_rfl) (by kernel_rfl) (fun _ _ _ h => h) (Or.inl ⟨by rfl, fun w9 hSw => by go_simp⟩) hS6 ?_
   try simp only [Act.put, ZqA, ZqB, ZqC]
   refine aF 14 (some 76) (v := .agg (stc S (.slice y1 S.ram.length z1) (.slice y2 S.inp.length z2) (.slice y3 S.out.length z3))) rfl (by kernel_rfl) (by kernel_rfl) (by kernel_rfl) (by kernel_rfl) (fun _ _ _ h => h) (Or.inl ⟨by rfl, fun w9 hSw => ?_⟩) hS6 ?_
   ·have q := bQ (P := prog) 35 gb (stc S (.slice y1 S.ram.length z1) (.slice y2 S.inp.length z2) (.slice y3 S.out.length z3)) _ w9 hSw.2.2.2.2 underlying35 (by rfl) (cJ _ _ _ _)
    unfold execOp
    exact q
   try simp only [Act.put, ZqA, ZqB, ZqC]
   refine aF 15 (some 77) (v := .pointer (some ⟨b, 0, none⟩)) rfl (by kernel_rfl) (by kernel_rfl) (by kernel_rfl) (by kernel_rfl) (fun _ _ _ h => h) (Or.inl ⟨by rfl, fun w9 hSw => by go_simp⟩) hS6 ?_
   try simp only [Act.put, ZqA, ZqB, ZqC]
   refine wpAnyH_ready (rs := [16]) (by kernel_rfl) (by simp) ?_
   refine AllReadyH.cons (o := _) rfl (fun KK hKK => ?_) AllReadyH.nil
   rw [if_pos (by rfl)]
   go_simp
   go_at_call 12
   refine (iN HSK.out (HKX.out.later hb6')).mono ?_
   rintro e w7 ⟨ur, ui, uo, rfl, hsv, hb7⟩
   have hb7' : Below W9.heap.size W9 w7 := hb6'.trans (hb7.mono hb6'.size)
   have hS7 : Row w7 gd (dnc (dT T)) 44 ∧ Row w7 gt (tpc T) 42 ∧ Row w7 gx (cpc P) 31 ∧ Row w7 w.heap.size (cpc c) 31 ∧ Row w7 gb (stc S (.slice y1 S.ram.length z1) (.slice y2 S.inp.length z2) (.slice y3 S.out.length z3)) 35 := ⟨(HRD.out.later hb7').r, (HRT.out.later hb7').r, (HRX.out.later hb7').r, HR0.out.later (HKX.out.later hb7').be HR0.out.lt, (HRB.out.later hb7').r⟩
   refine hKK.out _ _ hS7 (fun _ => ?_)
   try simp only [Act.put, ZqA, ZqB, ZqC]
   refine wpAnyH_ready (rs := [17]) (by kernel_rfl) (by simp) ?_
   refine AllReadyH.cons (o := _) rfl (fun KK hKK => ?_) AllReadyH.nil
   rw [if_pos (by rfl)]
   go_simp
   go_at_call 13
   refine (oQ S (.slice y1 S.ram.length z1) (.slice y2 S.inp.length z2) (.slice y3 S.out.length z3) ur ui uo w7 (HSB.out.later hb7').b hsv.bs).mono ?_
   rintro e w8 ⟨rfl, hb8⟩
   have hb8' : Below W9.heap.size W9 w8 := hb7'.trans (hb8.mono hb7'.size)
   have hS8 : Row w8 gd (dnc (dT T)) 44 ∧ Row w8 gt (tpc T) 42 ∧ Row w8 gx (cpc P) 31 ∧ Row w8 w.heap.size (cpc c) 31 ∧ Row w8 gb (stc S (.slice y1 S.ram.length z1) (.slice y2 S.inp.length z2) (.slice y3 S.out.length z3)) 35 := ⟨(HRD.out.later hb8').r, (HRT.out.later hb8').r, (HRX.out.later hb8').r, HR0.out.later (HKX.out.later hb8').be HR0.out.lt, (HRB.out.later hb8').r⟩
   refine hKK.out _ _ hS8 (fun _ => ?_)
   try simp only [Act.put, ZqA, ZqB, ZqC]
   refine aF 18 (some 80) (v := .bool true) rfl (by kernel_rfl) (by kernel_rfl) (by kernel_rfl) (by kernel_rfl) (fun _ _ _ h => h) (Or.inl ⟨by rfl, fun w9 hSw => by go_simp⟩) hS8 ?_
   try simp only [Act.put, ZqA, ZqB, ZqC]
   refine aF 19 (some 6) (v := .bool true) rfl (by kernel_rfl) (by kernel_rfl) (by kernel_rfl) (by kernel_rfl) (fun _ _ _ h => h) (Or.inl ⟨by rfl, fun w9 hSw => by go_simp⟩) hS8 ?_
   try simp only [Act.put, ZqA, ZqB, ZqC]
   refine wpAnyH_done (by kernel_rfl) ?_ _
   go_wp2_with fail
   go_ret
   exact ⟨rfl, b0.out.trans (((HKX.out.later hb8').be).mono b0.out.size)⟩
end Go.Proofs.YtddlmenfcbjoaaaGreatDoor
