import Derived.Test.YtddlmenfcbjoaaaGreatDoorK33
namespace Go.Proofs.YtddlmenfcbjoaaaGreatDoor
set_option linter.unusedVariables false
set_option maxRecDepth 100000
set_option maxHeartbeats 8000000
open Go.ChangeShapes Go.WideShapes Go.ChangeAt Go.RowKit Go.Deep _root_.Go.Proofs.Tryz
theorem GM (d : Dd) : (dnc d).extract 0 (0 + 3) = tpc d.t := by kernel_rfl
theorem FT (w : World) (n : Nat) (d e : Dd) : Cmp prog w (n + 4) 44 (.agg (dnc d)) (.agg (dnc e)) ((d.t.is = e.t.is ∧ d.t.ca = e.t.ca ∧ d.t.tv = e.t.tv ∧ True) ∧ d.rd = e.rd ∧ d.v = e.v ∧ d.me = e.me ∧ d.ad = e.ad ∧ d.sz = e.sz ∧ d.da = e.da ∧ d.wc = e.wc ∧ d.wi = e.wi ∧ True) := by
 refine Cmp.struct underlying44 (by kernel_rfl) ?_
 refine dN.cons (by decide) (gR (n := 3) underlying42 rfl (by kernel_rfl)) (gR (n := 3) underlying42 rfl (by kernel_rfl)) (by rw [GM, GM]; exact vE w (n + 1) _ _) ?_
 refine dN.cons (by decide) (ZqL w (by kernel_rfl) (eH d 3 (by omega))) (ZqL w (by kernel_rfl) (eH e 3 (by omega))) (Cmp.int underlying3) ?_
 refine dN.cons (by decide) (ZqL w (by kernel_rfl) (eH d 4 (by omega))) (ZqL w (by kernel_rfl) (eH e 4 (by omega))) ((Cmp.int underlying22).iff bV) ?_
 refine dN.cons (by decide) (ZqL w (by kernel_rfl) (eH d 5 (by omega))) (ZqL w (by kernel_rfl) (eH e 5 (by omega))) (Cmp.int underlying3) ?_
 refine dN.cons (by decide) (ZqL w (by kernel_rfl) (eH d 6 (by omega))) (ZqL w (by kernel_rfl) (eH e 6 (by omega))) ((Cmp.int underlying22).iff bV) ?_
 refine dN.cons (by decide) (ZqL w (by kernel_rfl) (eH d 7 (by omega))) (ZqL w (by kernel_rfl) (eH e 7 (by omega))) (Cmp.int underlying3) ?_
 refine dN.cons (by decide) (ZqL w (by kernel_rfl) (eH d 8 (by omega))) (ZqL w (by kernel_rfl) (eH e 8 (by omega))) ((Cmp.int underlying22).iff bV) ?_
 refine dN.cons (by decide) (ZqL w (by kernel_rfl) (eH d 9 (by omega))) (ZqL w (by kernel_rfl) (eH e 9 (by omega))) (Cmp.bool underlying4) ?_
 refine dN.cons (by decide) (ZqL w (by kernel_rfl) (eH d 10 (by omega))) (ZqL w (by kernel_rfl) (eH e 10 (by omega))) (Cmp.bool underlying4) ?_
 exact dN.nil
theorem fG (w : World) (d : Dd) : (Op.equalIn 10000 44 (.agg (dnc d)) (.agg (dnc d))).run prog w = .ok true w := by
 obtain ⟨r, hr, h⟩ := FT w 9996 d d
 rw [hr, h.2 ⟨⟨rfl, rfl, rfl, trivial⟩, rfl, rfl, rfl, rfl, rfl, rfl, rfl, rfl, trivial⟩]
theorem vK (x y : Operand) (u v : Array Value) (w : World) : (eqGuard .neq 44 x y (.agg u) (.agg v)).run prog w = .ok () w := by kernel_rfl
theorem fC (x y : Operand) (u v : Array Value) (w : World) : (eqGuard .eql 44 x y (.agg u) (.agg v)).run prog w = .ok () w := by kernel_rfl
theorem bO {ops : Array Oper} {rest : List Oper} {o : Oper} {a : Act} {w : World} {Q : Exit → Act → World → Prop} (hw : Region.wanted o (yielded ops a.tmps) = true) (t t2 : TypeId) (x y : Operand) (ho : o.op = .binOp .eql t x y t2)
  (u v : Array Value) (hx : a.eval x = .agg u) (hy : a.eval y = .agg v) (he : (Op.equalIn 10000 t (.agg u) (.agg v)).run prog w = .ok true w) (hg : (eqGuard .eql t x y (.agg u) (.agg v)).run prog w = .ok () w)
  (h : wpList prog ops Q rest (a.put o.dst (.bool true)) w) : wpList prog ops Q (o :: rest) a w :=
 BigFrame.wpList_want hw fun _ hK => by
  unfold Oper.wp execOp
  simp only [ho, hx, hy]
  go_simp
  exact hK _ _ h
theorem qO {B : Nat} {L L1 : Lay} {w1 W : World} {S1 : St} {g gd : Nat} {c1 c2 : Array Value} {t1 t2 : TypeId} (hp : PSt B L w1 L1 S1 W) (o1 : Own w1 L1 W g c1 t1) (o2 : Own w1 L1 W gd c2 t2) (hne : g < gd) (d1 d2 : Array Value) :
  Own w1 L1 ((W.setRow g d1).setRow gd d2) g d1 t1 ∧ Own w1 L1 ((W.setRow g d1).setRow gd d2) gd d2 t2 ∧ PSt B L w1 L1 S1 ((W.setRow g d1).setRow gd d2) :=
 ⟨⟨(setRow_other _ _ _ _ (by omega)).trans (ZqW _ _ _ _ _ _ o1.r), o1.n, o1.ge⟩, ⟨ZqW _ _ _ _ _ _ ((setRow_other _ _ _ _ (by omega)).trans o2.r), o2.n, o2.ge⟩, (hp.row o1.n o1.ge d1).row o2.n o2.ge d2⟩
theorem UY : (cpc cM).setIfInBounds 3 (.int .u64 2147483656) = cpc cA := by kernel_rfl
theorem gM (w : World) (hT : Tb w) : Calls prog 9 #[] w fun e w' => e = .returned (.bool true) ∧ Below w.heap.size w w' := by
 obtain ⟨V, hV⟩ := gZ
 have HNW : Hid (Calls prog 24 #[.int .i64 64] w fun e w' => ∃ L, e = .returned (.tuple #[.pointer (some ⟨L.b, 0, none⟩), .int .i64 0]) ∧ PB w.heap.size L (St.zero 64) w' ∧ Below w.heap.size w w') := new_c 64 w rfl
 have HT0 := hid hT
 have hzc := cC
 have hzd := fP
 clear hT
 go_enter func9, ntmps9
 go_upto_region 5 with (first | (go_at_call 24; refine HNW.out.mono ?_; rintro e w1 ⟨L, rfl, hp1, hb1⟩; have HP1 := hid hp1; have HB1 := hid hb1; clear hp1 hb1) | (go_at_call 23; refine (TV _ _).mono ?_; rintro e w1 ⟨rfl, rfl⟩) | (refine aC (by rfl) 31 _ (by rfl) (cpc cM) (by kernel_rfl) ?_) | (refine aK (by rfl) 31 _ _ (by rfl) (by rfl) (cpc cz) (cpc cM) (by rfl) (by rfl) (aB _) (by rw [aE, aE]) (aO _) ?_))
 have HT1 : Hid (∀ L1 S1 W, PSt w.heap.size L w1 L1 S1 W → Tb W) := fun L1 S1 W hp => hp.tb (hT := HT0.out.next HB1.out) (hB := HT0.out.lt) (h := HP1.out)
 have HD1 : Hid (∀ L1 W, PSt w.heap.size L w1 L1 (St.zero 64) W → Calls prog 11 #[.agg (cpc cA), .pointer (some ⟨L.b, 0, none⟩), .agg (inc iA1)] W fun e w' => e = .returned (.tuple #[.agg (cpc cA1), .agg (dnc dA1)]) ∧ ∃ L', PSt w.heap.size L1 W L' (St.zero 64) w') := fun L1 W hp => by
  have q := BO W hp.p nU (HT1.out _ _ _ hp) HT0.out.lt hV cA iA1 (by unfold I64; decide)
  rw [fA1_d, fA1_c, fA1_S, hp.b.1] at q
  exact q
 have HD2 : Hid (∀ L1 W, PSt w.heap.size L w1 L1 (St.zero 64) W → Calls prog 11 #[.agg (cpc cA1), .pointer (some ⟨L.b, 0, none⟩), .agg (inc iA2)] W fun e w' => e = .returned (.tuple #[.agg (cpc cA2), .agg (dnc dA2)]) ∧ ∃ L', PSt w.heap.size L1 W L' sA2 w') := fun L1 W hp => by
  have q := BO W hp.p nU (HT1.out _ _ _ hp) HT0.out.lt hV cA1 iA2 (by unfold I64; decide)
  rw [fA2_d, fA2_c, TH, hp.b.1] at q
  exact q
 have hsA : Sok sA2 := by rw [← TH V 0]; exact GJ _ nU _ _ _
 have HD3 : Hid (∀ L1 W, PSt w.heap.size L w1 L1 sA2 W → Calls prog 11 #[.agg (cpc cA2), .pointer (some ⟨L.b, 0, none⟩), .agg (inc iA3)] W fun e w' => e = .returned (.tuple #[.agg (cpc cA3), .agg (dnc dA3)]) ∧ ∃ L', PSt w.heap.size L1 W L' (dR (vA V) sA2 L.b cA2 iA3).S w') := fun L1 W hp => by
  have q := BO W hp.p hsA (HT1.out _ _ _ hp) HT0.out.lt hV cA2 iA3 (by unfold I64; decide)
  rw [fA3_d, fA3_c, hp.b.1] at q
  exact q
 have HBW : Hid (∀ L1 S1 W, PSt w.heap.size L w1 L1 S1 W → Below w.heap.size w W) := fun L1 S1 W hp => HB1.out.trans (hp.x.below HB1.out.size (fun k hk => HP1.out.own_lo k hk))
 clear hsA hV
 generalize (dR (vA V) sA2 L.b cA2 iA3).S = S3 at HD3
 generalize sA2 = S2 at HD2 HD3
 generalize St.zero 64 = S0 at HP1 HD1 HD2
 have HP4 : Hid (PSt w.heap.size L w1 L S0 (w1.alloc (.cells (cpc cM) 31))) := (PSt.refl HP1.out).al _
 have HO4 : Hid (Own w1 L (w1.alloc (.cells (cpc cM) 31)) (w1.heap.size) (cpc cM) 31) := Own.new (PSt.refl HP1.out) _ _
 generalize w1.alloc (.cells (cpc cM) 31) = W4 at HP4 HO4 ⊢
 generalize w1.heap.size = g3 at HO4 ⊢
 clear HNW HT0 HT1 HP1 HB1
 have cX : W4.cell? ⟨g3, 3, none⟩ = some (.int .u64 0) := (HO4.out.r.cell 3).trans rfl
 have fX := HO4.out.r.froz 3
 go_upto_region 6 with fail
 refine bT (motive := fun W => Code.wp _ _ _ _ W) (Q := fun W => Own w1 L W g3 (cpc cA) 31 ∧ PSt w.heap.size L w1 L S0 W) ⟨⟨by rw [← UY]; exact HO4.out.r.put _, HO4.out.n, HO4.out.ge⟩, HP4.out.put HO4.out.n HO4.out.ge _ _⟩ ?_
 clear cX fX HP4 HO4
 rintro W5 ⟨q0, q1⟩
 have HO3 := hid q0
 have HPx := hid q1
 clear q0 q1
 go_upto_region 7 with (first | (refine wpList_load_row (by rfl) _ _ (by rfl) _ (by rfl) 31 _ (0, 0) _ HO3.out.r underlying31 (by rfl) (aB _) ?_) | (refine aC (by rfl) 48 _ (by rfl) (inc iA1) (by kernel_rfl) ?_) | (go_at_call 11; refine (HD1.out L _ HPx.out).mono ?_; rintro e w5 ⟨rfl, L1, hp5⟩; have HP5 := hid hp5; clear hp5; have HRa : Hid (Row (w5.alloc (.cells (dnc dZ) 44)) g3 (cpc cA) 31) := ((HO3.out.bus HP5.out).post (aG _ _)).r; have HRb : Hid (Row ((w5.alloc (.cells (dnc dZ) 44)).setRow g3 (cpc cA1)) w5.heap.size (dnc dZ) 44) := (setRow_other _ _ _ _ (by have := (HO3.out.bus HP5.out).r.lt; omega)).trans (Row.new _ _ _)) | (refine aA (by rfl) _ _ _ (by rfl) (by rfl) g3 _ _ (by rfl) (by rfl) HRa.out (aB _) (by rw [aE, aE]) (aO _) ?_) | (refine aA (by rfl) _ _ _ (by rfl) (by rfl) w5.heap.size _ _ (by rfl) (by rfl) HRb.out (bE _) (eZ _ _) (dI _) ?_))
 have hlt' : g3 < w5.heap.size := (HO3.out.bus HP5.out).r.lt
 refine bT (motive := fun W => Code.wp _ _ _ _ W) (Q := fun W => Own w1 L1 W g3 (cpc cA1) 31 ∧ Own w1 L1 W w5.heap.size (dnc dA1) 44 ∧ PSt w.heap.size L w1 L1 S0 W) (qO ((HPx.out.trans HP5.out).al _) ((HO3.out.bus HP5.out).post (aG _ _)) (Own.new (HPx.out.trans HP5.out) (dnc dZ) 44) hlt' (cpc cA1) (dnc dA1)) ?_
 clear HRa HRb HO3 HPx HP5 HD1
 generalize w5.heap.size = gd at hlt' ⊢
 have hlt := hlt'
 clear hlt'
 rintro W7 ⟨q0, q1, q2⟩
 have HO3 := hid q0
 have HDg := hid q1
 have HPx := hid q2
 clear q0 q1 q2
 have e0 : W7.cell? ⟨g3, 0, none⟩ = some (.int .u64 2147483652) := (HO3.out.r.cell 0).trans (by kernel_rfl)
 have e1 : W7.cell? ⟨g3, 2, none⟩ = some (.int .u64 18446744073709551614) := (HO3.out.r.cell 2).trans (by kernel_rfl)
 go_upto_region 9 with (first | (refine wpList_load_row (by rfl) _ _ (by rfl) _ (by rfl) 44 _ (0, 0) _ HDg.out.r underlying44 (by rfl) (bE _) ?_) | (refine aC (by rfl) 44 _ (by rfl) (dnc dA1) (by kernel_rfl) ?_) | (refine iH (by rfl) 44 _ _ _ (by rfl) (dnc dA1) (dnc dA1) (by rfl) (by rfl) (fG _ _) (vK _ _ _ _ _) ?_))
 clear e0 e1
 go_upto_region 10 with (first | (refine wpList_load_row (by rfl) _ _ (by rfl) _ (by rfl) 31 _ (0, 0) _ HO3.out.r underlying31 (by rfl) (aB _) ?_) | (refine aC (by rfl) 48 _ (by rfl) (inc iA2) (by kernel_rfl) ?_) | (go_at_call 11; refine (HD2.out L1 _ HPx.out).mono ?_; rintro e w5 ⟨rfl, L2, hp5⟩; have HP5 := hid hp5; clear hp5; have HRa : Hid (Row (w5) g3 (cpc cA1) 31) := (HO3.out.bus HP5.out).r; have HRb : Hid (Row ((w5).setRow g3 (cpc cA2)) gd (dnc dA1) 44) := (setRow_other _ _ _ _ (by omega)).trans (HDg.out.bus HP5.out).r) | (refine aA (by rfl) _ _ _ (by rfl) (by rfl) g3 _ _ (by rfl) (by rfl) HRa.out (aB _) (by rw [aE, aE]) (aO _) ?_) | (refine aA (by rfl) _ _ _ (by rfl) (by rfl) gd _ _ (by rfl) (by rfl) HRb.out (bE _) (eZ _ _) (dI _) ?_))
 have hlt' : g3 < gd := hlt
 refine bT (motive := fun W => Code.wp _ _ _ _ W) (Q := fun W => Own w1 L2 W g3 (cpc cA2) 31 ∧ Own w1 L2 W gd (dnc dA2) 44 ∧ PSt w.heap.size L w1 L2 S2 W) (qO (HPx.out.trans HP5.out) (HO3.out.bus HP5.out) (HDg.out.bus HP5.out) hlt' (cpc cA2) (dnc dA2)) ?_
 clear HRa HRb HO3 HPx HP5 HD2 HDg hlt'
 rintro W10 ⟨q0, q1, q2⟩
 have HO3 := hid q0
 have HDg := hid q1
 have HPx := hid q2
 clear q0 q1 q2
 have e0 : W10.cell? ⟨g3, 0, none⟩ = some (.int .u64 2147483654) := (HO3.out.r.cell 0).trans (by kernel_rfl)
 go_upto_region 12 with (first | (refine wpList_load_row (by rfl) _ _ (by rfl) _ (by rfl) 44 _ (0, 0) _ HDg.out.r underlying44 (by rfl) (bE _) ?_) | (refine aC (by rfl) 44 _ (by rfl) (dnc dA2) (by kernel_rfl) ?_) | (refine iH (by rfl) 44 _ _ _ (by rfl) (dnc dA2) (dnc dA2) (by rfl) (by rfl) (fG _ _) (vK _ _ _ _ _) ?_))
 clear e0
 go_upto_region 13 with (first | (refine wpList_load_row (by rfl) _ _ (by rfl) _ (by rfl) 31 _ (0, 0) _ HO3.out.r underlying31 (by rfl) (aB _) ?_) | (refine aC (by rfl) 48 _ (by rfl) (inc iA3) (by kernel_rfl) ?_) | (go_at_call 11; refine (HD3.out L2 _ HPx.out).mono ?_; rintro e w5 ⟨rfl, L3, hp5⟩; have HP5 := hid hp5; clear hp5; have HRa : Hid (Row (w5) g3 (cpc cA2) 31) := (HO3.out.bus HP5.out).r; have HRb : Hid (Row ((w5).setRow g3 (cpc cA3)) gd (dnc dA2) 44) := (setRow_other _ _ _ _ (by omega)).trans (HDg.out.bus HP5.out).r) | (refine aA (by rfl) _ _ _ (by rfl) (by rfl) g3 _ _ (by rfl) (by rfl) HRa.out (aB _) (by rw [aE, aE]) (aO _) ?_) | (refine aA (by rfl) _ _ _ (by rfl) (by rfl) gd _ _ (by rfl) (by rfl) HRb.out (bE _) (eZ _ _) (dI _) ?_))
 have hlt' : g3 < gd := hlt
 refine bT (motive := fun W => Code.wp _ _ _ _ W) (Q := fun W => Own w1 L3 W g3 (cpc cA3) 31 ∧ Own w1 L3 W gd (dnc dA3) 44 ∧ PSt w.heap.size L w1 L3 S3 W) (qO (HPx.out.trans HP5.out) (HO3.out.bus HP5.out) (HDg.out.bus HP5.out) hlt' (cpc cA3) (dnc dA3)) ?_
 clear HRa HRb HO3 HPx HP5 HD3 HDg hlt'
 rintro W13 ⟨q0, q1, q2⟩
 have HO3 := hid q0
 have HDg := hid q1
 have HPx := hid q2
 clear q0 q1 q2
 have e0 : W13.cell? ⟨g3, 4, none⟩ = some (.int .u64 65534) := (HO3.out.r.cell 4).trans (by kernel_rfl)
 go_wp2_with (first | (refine wpList_load_row (by rfl) _ _ (by rfl) _ (by rfl) 44 _ (0, 0) _ HDg.out.r underlying44 (by rfl) (bE _) ?_) | (refine aC (by rfl) 44 _ (by rfl) (dnc dA3) (by kernel_rfl) ?_) | (refine bO (by rfl) 44 _ _ _ (by rfl) (dnc dA3) (dnc dA3) (by rfl) (by rfl) (fG _ _) (fC _ _ _ _ _) ?_))
 go_ret
 exact ⟨rfl, HBW.out _ _ _ HPx.out⟩
theorem precise_n (c : Cp) (i : Ins) (S : St) (ar ai ao : Option Addr) (cr ci co : Nat) (w : World) (hT : Tb w) (hok : S.ok = false) :
  Calls prog 4 #[.agg (cpc c), .agg (stc S (.slice ar S.ram.length cr) (.slice ai S.inp.length ci) (.slice ao S.out.length co)), .agg (inc i)] w fun e w' => e = .returned (.bool true) ∧ Below w.heap.size w w' := by
 obtain ⟨W0, hW0, r0, r1, r2, b0', -⟩ := jE w (cpc c) (stc S (.slice ar S.ram.length cr) (.slice ai S.inp.length ci) (.slice ao S.out.length co)) (inc i) 31 35 48
 have HM := Hid.mk' (qF S ar ai ao cr ci co W0 hok)
 have HI : Hid ((prog.info? 35).map (·.size) = some (stc S (.slice ar S.ram.length cr) (.slice ai S.inp.length ci) (.slice ao S.out.length co)).size) := cJ _ _ _ _
 have HF : Hid (∀ W, Below w.heap.size w W → Calls prog 9 #[] W fun e w' => e = .returned (.bool true) ∧ Below W.heap.size W w') := fun W hb => gM W (hT.next hb)
 have HR1 := Hid.mk' r1
 have b0 := Hid.mk' b0'
 clear r0 r1 r2 hok hT b0'
 generalize (stc S (.slice ar S.ram.length cr) (.slice ai S.inp.length ci) (.slice ao S.out.length co)) = cs at HM HI HR1 hW0 ⊢
 generalize cpc c = cc at hW0 ⊢
 generalize inc i = ii at hW0 ⊢
 go_enter func4, ntmps4
 go_upto_region 1 with fail
 clear hW0
 go_wp2_with (first | (refine wpList_load_row (by rfl) _ _ (by rfl) _ (by rfl) 35 _ (0, 0) _ HR1.out underlying35 (by rfl) HI.out ?_) | (go_at_call 8; refine HM.out.mono ?_; rintro e w1 ⟨rfl, hb⟩; have HB := Hid.mk' (b0.out.trans (hb.mono b0.out.size)); clear hb) | (go_at_call 9; refine (HF.out _ HB.out).mono ?_; rintro e w2 ⟨rfl, hb⟩; have HB2 := Hid.mk' (HB.out.trans (hb.mono HB.out.size)); clear hb))
 go_ret
 exact ⟨rfl, HB2.out⟩
end Go.Proofs.YtddlmenfcbjoaaaGreatDoor
