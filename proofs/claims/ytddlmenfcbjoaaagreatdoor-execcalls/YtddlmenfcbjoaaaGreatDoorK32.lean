import Derived.Test.YtddlmenfcbjoaaaGreatDoorK31
import Derived.Defers
import Derived.Recover
import Derived.Test.YtddlmenfcbjoaaaGreatDoorK27
namespace Go.Proofs.YtddlmenfcbjoaaaGreatDoor
set_option linter.unusedVariables false
set_option maxRecDepth 100000
set_option maxHeartbeats 8000000
open Go.ChangeShapes Go.WideShapes Go.ChangeAt Go.RowKit Go.Deep _root_.Go.Proofs.Tryz
theorem vL : ∀ i, i < 36 → ∀ j, j < 36 → i < j → (fmG i).2.1 < (fmG j).1 := by decide
theorem PE {op : Int} {i j : Nat} (hi : i < 36) (hj : j < 36) (h1 : fmH op i) (h2 : fmH op j) : i = j := by
 unfold fmH at h1 h2
 rcases Nat.lt_trichotomy i j with h | h | h
 ·have := vL i hi j hj h; omega
 ·exact h
 ·have := vL j hj i hi h; omega
theorem vN {op : Int} {i : Nat} (hi : i < 36) (h : fmH op i) (w : World) : Calls prog 43 #[.int .i64 op] w fun e w' => e = .returned (.tuple #[.agg (fmc i), .bool true]) ∧ Below w.heap.size w w' := by
 refine (vM op w).mono ?_
 rintro e w' ⟨hb, ⟨j, hj, h2, rfl⟩ | ⟨hno, _⟩⟩
 ·rw [PE hi hj h h2]; exact ⟨rfl, hb⟩
 ·exact absurd h (hno i hi)
theorem IA {op : Int} (h : ∀ i, i < 36 → ¬ fmH op i) (w : World) : Calls prog 43 #[.int .i64 op] w fun e w' => e = .returned (.tuple #[.agg fmZ, .bool false]) ∧ Below w.heap.size w w' := by
 refine (vM op w).mono ?_
 rintro e w' ⟨hb, ⟨j, hj, h2, rfl⟩ | ⟨hno, rfl⟩⟩
 ·exact absurd h2 (h j hj)
 ·exact ⟨rfl, hb⟩
theorem OZ (a : Value) : ∀ i, i < 36 → ∀ w : World, (callFunc (fmG i).2.2.1 #[a]).run prog w = .ok (.enter (fmG i).2.2.1 #[a]) w
 | 0, _, _ => by kernel_rfl
 | 1, _, _ => by kernel_rfl
 | 2, _, _ => by kernel_rfl
 | 3, _, _ => by kernel_rfl
 | 4, _, _ => by kernel_rfl
 | 5, _, _ => by kernel_rfl
 | 6, _, _ => by kernel_rfl
 | 7, _, _ => by kernel_rfl
 | 8, _, _ => by kernel_rfl
 | 9, _, _ => by kernel_rfl
 | 10, _, _ => by kernel_rfl
 | 11, _, _ => by kernel_rfl
 | 12, _, _ => by kernel_rfl
 | 13, _, _ => by kernel_rfl
 | 14, _, _ => by kernel_rfl
 | 15, _, _ => by kernel_rfl
 | 16, _, _ => by kernel_rfl
 | 17, _, _ => by kernel_rfl
 | 18, _, _ => by kernel_rfl
 | 19, _, _ => by kernel_rfl
 | 20, _, _ => by kernel_rfl
 | 21, _, _ => by kernel_rfl
 | 22, _, _ => by kernel_rfl
 | 23, _, _ => by kernel_rfl
 | 24, _, _ => by kernel_rfl
 | 25, _, _ => by kernel_rfl
 | 26, _, _ => by kernel_rfl
 | 27, _, _ => by kernel_rfl
 | 28, _, _ => by kernel_rfl
 | 29, _, _ => by kernel_rfl
 | 30, _, _ => by kernel_rfl
 | 31, _, _ => by kernel_rfl
 | 32, _, _ => by kernel_rfl
 | 33, _, _ => by kernel_rfl
 | 34, _, _ => by kernel_rfl
 | 35, _, _ => by kernel_rfl
 | n + 36, h, _ => absurd h (by omega)
def rnK (R : Re) : Re := { R with k := { R.k with k := { R.k.k with pc := R.k.nx &&& ~~~1#64 } } }
def szK (k : Wk) (i : Nat) : Wk := { k with sz := (fmG i).2.2.2 }
theorem vrun_c {B g i : Nat} {L : Lay} {S : St} {w : World} {k : Wk} {V : ZqZ} (hV : CV V) (h : Pre B L S w g k) (hi36 : i < 36) (hop : fmH k.i.op i) (hf : ftB k.i = true) (him : I64 k.i.im) :
  Calls prog 30 #[.pointer (some ⟨g, 0, none⟩)] w fun e w' => Ret B L w g (aU V S (szK k i) (grI i)).t (aU V S (szK k i) (grI i)).S (rnK (aU V S (szK k i) (grI i))).k (.tuple #[]) e w' := by
 have c1 := h.r.kls.op
 have HP := Hid.mk' h
 have hlt := h.r.lt
 have HFO := Hid.mk' (vN hi36 hop)
 have HFT : Hid (∀ W, Row W g (wkc k) 74 → Calls prog 45 #[.pointer (some ⟨g, 0, none⟩)] W fun e w' => e = .returned (.bool true) ∧ Below W.heap.size W w') := fun W hr => by have q := BP hr; rw [hf] at q; exact q
 have HBD : Hid (∀ W L1, Pre B L1 S W g (szK k i) → Calls prog (fmG i).2.2.1 #[.pointer (some ⟨g, 0, none⟩)] W fun e w' => Ret B L1 W g (aU V S (szK k i) (grI i)).t (aU V S (szK k i) (grI i)).S (aU V S (szK k i) (grI i)).k (.tuple #[]) e w') := fun W L1 hp => SG hV (Bod.of hp hf him) i hi36 hop rfl
 have hcf := OZ (.pointer (some ⟨g, 0, none⟩)) i hi36
 have HZ0 : Hid True := trivial
 generalize aU V S (szK k i) (grI i) = R at HBD ⊢
 clear h hf
 go_enter func30, ntmps30
 go_upto_region 1 with (first | (go_at_call 43; refine (HFO.out _).mono ?_; rintro e w1 ⟨rfl, hb⟩; have HB := Hid.mk' hb; clear hb) | (refine dS (by rfl) 125 (by rfl) fmZ lU ?_) | (have hz0 := HZ0.out; clear HZ0; refine aK (by rfl) 125 _ _ (by rfl) (by rfl) fmZ (fmc i) (by rfl) (by rfl) (gF i) (by rfl) (mT i) ?_))
 refine kB (motive := fun W => Code.wp _ _ _ _ W) (Q := fun W => Pre B L S W g k ∧ Row W w1.heap.size (fmc i) 125 ∧ Below w.heap.size w W) ⟨HP.out.later (HB.out.trans ((aG _ _).mono HB.out.size)), Row.new w1 _ _, HB.out.trans ((aG _ _).mono HB.out.size)⟩ ?_
 have hne : w1.heap.size ≠ g := by have := HB.out.size; omega
 clear HB c1
 generalize w1.heap.size = gf at hne ⊢
 rintro W2 ⟨p2, r2, b2⟩
 have HP2 := Hid.mk' p2
 have HF2 := Hid.mk' r2
 have HB2 := Hid.mk' b2
 clear p2 r2 b2
 go_upto_region 2 with (first | (go_at_call 45; refine (HFT.out _ HP2.out.r).mono ?_; rintro e w3 ⟨rfl, hb⟩; have HB3 := Hid.mk' hb; clear hb) | (go_at_call 44; refine (jR _ _).mono ?_; rintro e w5 ⟨rfl, hw5⟩; have hw52 := hw5.symm; subst hw52))
 have HP3 := Hid.mk' (HP2.out.later HB3.out)
 have HF3 := Hid.mk' (HF2.out.later HB3.out HF2.out.lt)
 have HB4 := Hid.mk' (HB2.out.trans (HB3.out.mono HB2.out.size))
 clear HP2 HF2 HB2 HB3
 have c3 : w3.cell? ⟨gf, 3, none⟩ = some (.int .i64 (fmG i).2.2.2) := HF3.out.cell 3
 have c4 := HP3.out.r.kls.sz
 have f4 := HP3.out.r.froz 174
 have HM5 : Hid (Mk g w3 (w3.setCell ⟨g, 174, none⟩ (.int .i64 (fmG i).2.2.2)) (szK k i)) := Mk.set ⟨Exc.refl _ _, HP3.out.r⟩ (wkc_sz _ _)
 have HF5 : Hid (Row (w3.setCell ⟨g, 174, none⟩ (.int .i64 (fmG i).2.2.2)) gf (fmc i) 125) := HF3.out.other hne _
 go_upto_region 3 with fail
 refine kB (motive := fun W => Code.wp _ _ _ _ W) (Q := fun W => Mk g w3 W (szK k i) ∧ Row W gf (fmc i) 125) ⟨HM5.out, HF5.out⟩ ?_
 clear HM5 HF5 HF3 c3 c4 f4
 rintro W5 ⟨m5, r5⟩
 have c2 : W5.cell? ⟨gf, 2, none⟩ = some (.func (.func (fmG i).2.2.1) #[] #[]) := r5.cell 2
 have HP5 := Hid.mk' (HP3.out.mk' m5 rfl)
 have HB5 := Hid.mk' ((Bst.later (g := g) HP.out.p HB4.out).trans hlt (Bst.of_mk HP3.out.p HP3.out.n m5.x))
 clear m5 r5 HP3 HB4
 generalize (fmG i).2.2.1 = fn at hcf HBD c2
 cases ht : R.t.is with
 | true =>
  go_wp2_with fail
  refine (HBD.out _ _ HP5.out).mono ?_
  rintro e w' hp
  obtain ⟨rfl, L', hb, hn'⟩ := hp.no ht
  exact ⟨rfl, L', HB5.out.trans hlt hb, hn', .inl ⟨ht, rfl⟩⟩
 | false =>
  go_wp2_with fail
  refine (HBD.out _ _ HP5.out).mono ?_
  intro e w6 hp
  obtain ⟨rfl, L6, hb6, hn6, hr6⟩ := hp.yes ht
  have HB6 := Hid.mk' (HB5.out.trans hlt hb6)
  have HR6 := Hid.mk' hr6
  have HN6 := Hid.mk' hn6
  have c6 := hr6.kls.nx
  have c7 : w6.cell? ⟨g, 82, none⟩ = some (.int .u64 (n64 R.k.k.pc)) := hr6.kls.kk 0 _ ((bG _ 0 (by decide)).trans (by rw [nH]))
  have f7 := hr6.froz 82
  have e7 : bits .andNot .u64 (n64 R.k.nx) 1 = n64 (R.k.nx &&& ~~~1#64) := eR _ 1#64
  clear hp hb6 hn6 hr6 HBD hcf c2
  go_wp2_with fail
  first | go_end0 | refine ZqH (results_none rfl _ _ _) rfl ?_
  have HM := Hid.mk' (Mk.set (k := R.k) ⟨Exc.refl _ _, HR6.out⟩ (wkc_pc _ (R.k.nx &&& ~~~1#64)))
  exact ⟨L6, HB6.out.trans hlt (Bst.of_mk HB6.out.p HN6.out HM.out.x), HN6.out, .inr ⟨ht, rfl, HM.out.r⟩⟩
theorem vrun_n {B g : Nat} {L : Lay} {S : St} {w : World} {k : Wk} (h : Pre B L S w g k) (hno : ∀ i, i < 36 → ¬ fmH k.i.op i) (K : Wk) :
  Calls prog 30 #[.pointer (some ⟨g, 0, none⟩)] w fun e w' => Ret B L w g (tS 2 (rB k.i.rw)) S K (.tuple #[]) e w' := by
 have c1 := h.r.kls.op
 have HP := Hid.mk' h
 have HFO := Hid.mk' (IA hno)
 have HZ0 : Hid True := trivial
 obtain ⟨C, hC⟩ : ∃ C : Array Value, C = fmZ := ⟨_, rfl⟩
 rw [← hC] at HFO
 have HIF : Hid ((prog.info? 125).map (·.size) = some C.size) := by rw [hC]; exact gF 0
 have HSI : Hid (fmZ.size = C.size) := by rw [hC]; rfl
 have HON : Hid (C.all (·.oneCell') = true) := by unfold Hid; rw [hC]; kernel_rfl
 clear h hC
 go_enter func30, ntmps30
 go_upto_region 1 with (first | (go_at_call 43; refine (HFO.out _).mono ?_; rintro e w1 ⟨rfl, hb⟩; have HB := Hid.mk' hb; clear hb) | (refine dS (by rfl) 125 (by rfl) fmZ lU ?_) | (have hz0 := HZ0.out; clear HZ0; refine aK (by rfl) 125 _ _ (by rfl) (by rfl) fmZ C (by rfl) (by rfl) HIF.out HSI.out HON.out ?_))
 refine kB (motive := fun W => Code.wp _ _ _ _ W) (Q := fun W => Pre B L S W g k ∧ Below w.heap.size w W) ⟨HP.out.later (HB.out.trans ((aG _ _).mono HB.out.size)), HB.out.trans ((aG _ _).mono HB.out.size)⟩ ?_
 clear HB c1
 generalize w1.heap.size = gf
 rintro W2 ⟨p2, b2⟩
 have HP2 := Hid.mk' p2
 have HB2 := Hid.mk' b2
 clear p2 b2
 go_wp2_with (first | (go_at_call 44; refine (hH HP2.out.r).mono ?_))
 rintro e w' hp
 obtain ⟨rfl, hb⟩ := hp
 exact ⟨rfl, L, Bst.later HP.out.p (HB2.out.trans (hb.mono HB2.out.size)), HP.out.n, .inl ⟨rfl, rfl⟩⟩
theorem vrun_f {B g i : Nat} {L : Lay} {S : St} {w : World} {k : Wk} (h : Pre B L S w g k) (hi36 : i < 36) (hop : fmH k.i.op i) (hf : ftB k.i = false) (K : Wk) :
  Calls prog 30 #[.pointer (some ⟨g, 0, none⟩)] w fun e w' => Ret B L w g (tS 2 (rB k.i.rw)) S K (.tuple #[]) e w' := by
 have c1 := h.r.kls.op
 have HP := Hid.mk' h
 have HFO := Hid.mk' (vN hi36 hop)
 have HFT : Hid (∀ W, Row W g (wkc k) 74 → Calls prog 45 #[.pointer (some ⟨g, 0, none⟩)] W fun e w' => e = .returned (.bool false) ∧ Below W.heap.size W w') := fun W hr => by have q := BP hr; rw [hf] at q; exact q
 have HZ0 : Hid True := trivial
 obtain ⟨C, hC⟩ : ∃ C : Array Value, C = fmc i := ⟨_, rfl⟩
 rw [← hC] at HFO
 have HIF : Hid ((prog.info? 125).map (·.size) = some C.size) := by rw [hC]; exact gF 0
 have HSI : Hid (fmZ.size = C.size) := by rw [hC]; rfl
 have HON : Hid (C.all (·.oneCell') = true) := by unfold Hid; rw [hC]; exact mT i
 clear h hC
 go_enter func30, ntmps30
 go_upto_region 1 with (first | (go_at_call 43; refine (HFO.out _).mono ?_; rintro e w1 ⟨rfl, hb⟩; have HB := Hid.mk' hb; clear hb) | (refine dS (by rfl) 125 (by rfl) fmZ lU ?_) | (have hz0 := HZ0.out; clear HZ0; refine aK (by rfl) 125 _ _ (by rfl) (by rfl) fmZ C (by rfl) (by rfl) HIF.out HSI.out HON.out ?_))
 refine kB (motive := fun W => Code.wp _ _ _ _ W) (Q := fun W => Pre B L S W g k ∧ Below w.heap.size w W) ⟨HP.out.later (HB.out.trans ((aG _ _).mono HB.out.size)), HB.out.trans ((aG _ _).mono HB.out.size)⟩ ?_
 clear HB c1
 generalize w1.heap.size = gf
 rintro W2 ⟨p2, b2⟩
 have HP2 := Hid.mk' p2
 have HB2 := Hid.mk' b2
 clear p2 b2
 go_wp2_with (first | (go_at_call 45; refine (HFT.out _ HP2.out.r).mono ?_; rintro e w3 ⟨rfl, hb⟩; have HP3 := Hid.mk' (HP2.out.later hb); have HB3 := Hid.mk' (HB2.out.trans (hb.mono HB2.out.size)); clear hb) | (go_at_call 44; refine (hH HP3.out.r).mono ?_))
 rintro e w' hp
 obtain ⟨rfl, hb⟩ := hp
 exact ⟨rfl, L, Bst.later HP.out.p (HB3.out.trans (hb.mono HB3.out.size)), HP.out.n, .inl ⟨rfl, rfl⟩⟩
theorem ZJ (w : World) (c1 c2 c3 c4 : Array Value) (t1 t2 t3 t4 : TypeId) : ∃ W, (((w.alloc (.cells c1 t1)).alloc (.cells c2 t2)).alloc (.cells c3 t3)).alloc (.cells c4 t4) = W ∧ Row W w.heap.size c1 t1 ∧ Row W (w.heap.size + 1) c2 t2 ∧ Row W (w.heap.size + 2) c3 t3 ∧ Row W (w.heap.size + 3) c4 t4 ∧ Below w.heap.size w W := by
 obtain ⟨W, hW, r1, r2, r3, b⟩ := jE w c1 c2 c3 t1 t2 t3
 have hs : W.heap.size = w.heap.size + 3 := by rw [← hW]; simp
 refine ⟨_, rfl, ?_, ?_, ?_, ?_, ?_⟩
 ·rw [hW]; exact r1.old r1.lt _
 ·rw [hW]; exact r2.old r2.lt _
 ·rw [hW]; exact r3.old r3.lt _
 ·rw [hW]; have q := Row.new W c4 t4; rwa [hs] at q
 ·rw [hW]; exact b.1.trans ((aG _ _).mono b.1.size)
def wk0 (b : Nat) (c : Cp) (i : Ins) : Wk := ⟨c, c, b, i, 0, c.pc + iB i.ln, dZ⟩
theorem LQ (c : Int) (tv : BitVec 64) (w : World) : Calls prog 29 #[exv c tv] w fun e w' => e = .returned (.agg (tpc (tS c tv))) ∧ Below w.heap.size w w' := by
 have hta : ∀ w : World, (Instr.typeAssert (exv c tv) 20 121 true).run prog w = .ok (.tuple #[.agg (tpc (tS c tv)), .bool true]) w := fun w => by kernel_rfl
 obtain ⟨W0, hW0, r0, b0, s0⟩ := cT w (tpc tN) 42
 have hzt := bU
 have hze : ∀ w : World, (zeroValue 121).run prog w = .ok (.agg (tpc tN)) w := fun w => by kernel_rfl
 have hie : ∀ t, (prog.info? 121).map (·.size) = some (tpc t).size := fun t => by rw [wV]; kernel_rfl
 generalize exv c tv = ex at hta
 generalize tS c tv = t at hta ⊢
 clear s0
 go_enter func29, ntmps29
 go_upto_region 1 with fail
 clear hW0
 go_upto_region 2 with (refine aK (by rfl) 121 _ _ (by rfl) (by rfl) (tpc tN) (tpc t) (by rfl) (by rfl) (hie _) (bC _ _) (aN _) ?_)
 have HR0 := Hid.mk' (r0.out.old r0.out.lt (.cells (tpc t) 121))
 have HR1 := Hid.mk' (Row.new W0 (tpc t) 121)
 have HB1 := Hid.mk' (b0.out.trans ((aG W0 (.cells (tpc t) 121)).mono b0.out.size))
 clear r0 b0 hta hzt hze
 generalize W0.alloc (.cells (tpc t) 121) = W1 at HR0 HR1 HB1 ⊢
 generalize W0.heap.size = gx at HR1 ⊢
 go_wp2_with (first | (refine wpList_load_row (by rfl) _ _ (by rfl) _ (by rfl) 121 _ (0, 0) _ HR1.out underlying121 (by rfl) (hie _) ?_) | (refine aA (by rfl) _ _ _ (by rfl) (by rfl) _ _ _ (by rfl) (by rfl) HR0.out (aD _) (bC _ _) (aN _) ?_))
 exact ZqH (v := .agg (tpc t)) (ZqM results29 _ _ w.heap.size 42 _ (0, 0) _ (by rfl) (ZqW _ _ _ _ _ _ HR0.out) underlying42 (by rfl) (aD _)) rfl ⟨rfl, aW HB1.out (ZqE _) _⟩
theorem wY {P : Program} {md : Region.Mode} {ops : Array Oper} {Q : Exit → Act → World → Prop} {S : World → Prop} {fuel : Nat} {listed : Array Bool} {a : Act} {w : World} (i : Nat) {o : Oper} (d : Option Tmp) (f : FuncId) (args : Array Value) (hr : Region.ready md ops listed = [i]) (ho : ops[i]? = some o) (hg : o.guard = none) (hd : o.dst = d)
  (he : (execOp a.eval o).run P w = .ok (.enter f args) w) (hc : Calls P f args w fun e w' => ∃ v, e = .returned v ∧ S w' ∧ wpAnyH P md ops Q S fuel (listed.setIfInBounds i true) (a.put d v) w') : wpAnyH P md ops Q S (fuel + 1) listed a w := by
 subst hd
 refine wpAnyH_all hr (by simp) (fun j hj => ?_)
 obtain rfl : j = i := by simpa using hj
 refine wpOp_step ho (fun K hK => ?_)
 rw [if_pos (by simp [Region.wanted, hg])]
 unfold Oper.wp
 rw [he]
 refine Calls.mono hc ?_
 rintro e w' ⟨v, rfl, h1, h2⟩
 exact hK _ _ ⟨h1, h2⟩
theorem pE {P : Program} {o : Oper} {ρ : Operand → Value} {w : World} (t : TypeId) (x y : Operand) (ho : o.op = .store t x y) (g : Nat) (c c' : Array Value) (hx : ρ x = .pointer (some ⟨g, 0, none⟩)) (hy : ρ y = .agg c') (hg : Row w g c t) (hi : (P.info? t).map (·.size) = some c'.size) (hs : c.size = c'.size) (h1 : c'.all (·.oneCell') = true) :
  (execOp ρ o).run P w = .ok .skip (w.setRow g c') := by
 unfold execOp
 simp only [ho, hx, hy, Instr.storeAt, Instr.sureAddr, Sem.run_bind, Sem.run_pure, Result.andThen_ok, run_storeVar_row w g t t c c' hg hi hs h1]
theorem OH {gc gr gd : Nat} {K K0 : Cp} {D0 : Dd} (c : Int) (tv : BitVec 64) (older : List PanicEntry) (w : World) (hc : Row w gc (cpc K) 31) (hr : Row w gr (cpc K0) 31) (hd : Row w gd (dnc D0) 44) (n1 : gc ≠ gr) (n2 : gc ≠ gd) (n3 : gr ≠ gd) :
  CallsD prog 28 #[.pointer (some ⟨gc, 0, none⟩), .pointer (some ⟨gr, 0, none⟩), .pointer (some ⟨gd, 0, none⟩)] (.panicking ({ v := exv c tv, recovered := false } :: older)) w fun e u' w' =>
   e = .returned (.tuple #[]) ∧ u' = .panicking ({ v := exv c tv, recovered := true } :: older) ∧ Row w' gr (cpc K) 31 ∧ Row w' gd (dnc (dT (tS c tv))) 44 ∧ Exc (fun i => i = gr ∨ i = gd) w w' := by
 refine callsD_of_wpS func28 rfl fun c₀ cs hu => ?_
 apply wpS_seq
 apply wpS_region
 simp [wpOpsS, go_sem, recoverD, hu, ntmps28, Exit.thenS]
 refine wpS_of_wp ?_
 have HT := Hid.mk' (LQ c tv)
 have HC := Hid.mk' hc
 have HR := Hid.mk' hr
 have HD := Hid.mk' hd
 have hnil : ∀ w : World, (binOp .neq 20 (exv c tv) .nilIface).run prog w = .ok (.bool true) w := fun w => by kernel_rfl
 have heg : ∀ w : World, (eqGuard .neq 20 (.tmp 5) (.const .nilIface) (exv c tv) .nilIface).run prog w = .ok () w := fun w => by kernel_rfl
 have hlt := hc.lt
 change Code.wp _ _ _ { tmps := #[.pointer (some ⟨gc, 0, none⟩), .pointer (some ⟨gr, 0, none⟩), .pointer (some ⟨gd, 0, none⟩), exv c tv, exv c tv, undef, undef, undef, undef, undef, undef], defers := [] } w
 clear hc hr hd
 go_upto_region 2 with fail
 have HCd := Hid.mk' (HC.out.later (ZqD _ _).drew HC.out.lt)
 have hS0 : Row w.drew gc (cpc K) 31 := HCd.out
 refine wp_region_held (S := fun w' => Row w' gc (cpc K) 31) (by kernel_rfl) ?_
 change wpAnyH _ _ _ _ _ _ _ _ w.drew
 refine aF 0 (some 7) (v := .agg (cpc K)) rfl (by kernel_rfl) (by kernel_rfl) (by kernel_rfl) (by kernel_rfl) (fun _ _ _ h => h) (Or.inl ⟨by rfl, fun w9 hSw => ?_⟩) hS0 ?_
 ·have q := bQ (P := prog) 31 gc (cpc K) _ w9 hSw underlying31 (by rfl) (aB _)
  unfold execOp
  exact q
 try simp only [Act.put, ZqA, ZqB, ZqC]
 refine aF 1 (some 8) (v := exv c tv) rfl (by kernel_rfl) (by kernel_rfl) (by kernel_rfl) (by kernel_rfl) (fun _ _ _ h => h) (Or.inl ⟨by rfl, fun w9 hSw => by go_simp⟩) hS0 ?_
 try simp only [Act.put, ZqA, ZqB, ZqC]
 refine wY 2 (some 9) 29 #[exv c tv] (by kernel_rfl) rfl rfl rfl (by go_simp) ((HT.out _).mono ?_)
 rintro e w1 ⟨rfl, hb⟩
 have hS1 : Row w1 gc (cpc K) 31 := hS0.later hb hS0.lt
 refine ⟨_, rfl, hS1, ?_⟩
 try simp only [Act.put, ZqA, ZqB, ZqC]
 refine aF 3 (some 10) (v := .agg (dnc (dT (tS c tv)))) rfl (by kernel_rfl) (by kernel_rfl) (by kernel_rfl) (by kernel_rfl) (fun _ _ _ h => h) (Or.inl ⟨by rfl, fun w9 hSw => gO 44 _ rfl _ (by kernel_rfl) w9⟩) hS1 ?_
 try simp only [Act.put, ZqA, ZqB, ZqC]
 have HB := Hid.mk' ((ZqD w.heap.size w).drew.trans hb)
 have HR1 := Hid.mk' (HR.out.later HB.out HR.out.lt)
 have HD1 := Hid.mk' (HD.out.later HB.out HD.out.lt)
 have hS2 : Row (w1.setRow gr (cpc K)) gc (cpc K) 31 := (setRow_other _ _ _ _ n1).trans hS1
 refine gK 4 (w1.setRow gr (cpc K)) (by kernel_rfl) rfl rfl rfl (pE 31 _ _ rfl gr (cpc K0) (cpc K) (by rfl) (by rfl) HR1.out (aB _) (by rw [aE, aE]) (aO _)) hS2 ?_
 have HR2 : Hid (Row (w1.setRow gr (cpc K)) gr (cpc K) 31) := ZqW _ _ _ _ _ _ HR1.out
 have HD2 : Hid (Row (w1.setRow gr (cpc K)) gd (dnc D0) 44) := (setRow_other _ _ _ _ (Ne.symm n3)).trans HD1.out
 have HX2 : Hid (Exc (fun i => i = gr ∨ i = gd) w (w1.setRow gr (cpc K))) := (Exc.of_below HB.out rfl).trans ⟨rfl, rfl, rfl, by simp [World.setRow], fun i hi hn => setRow_other _ _ _ _ (fun e => hn (.inl e))⟩
 generalize w1.setRow gr (cpc K) = W2 at HR2 HD2 HX2 hS2 ⊢
 have hS3 : Row (W2.setRow gd (dnc (dT (tS c tv)))) gc (cpc K) 31 := (setRow_other _ _ _ _ n2).trans hS2
 refine gK 5 (W2.setRow gd (dnc (dT (tS c tv)))) (by kernel_rfl) rfl rfl rfl (pE 44 _ _ rfl gd (dnc D0) (dnc (dT (tS c tv))) (by rfl) (by rfl) HD2.out (bE _) (eZ _ _) (dI _)) hS3 ?_
 refine wpAnyH_done (by kernel_rfl) ?_ _
 have q1 : Row (W2.setRow gd (dnc (dT (tS c tv)))) gr (cpc K) 31 := (setRow_other _ _ _ _ n3).trans HR2.out
 have q2 : Row (W2.setRow gd (dnc (dT (tS c tv)))) gd (dnc (dT (tS c tv))) 44 := ZqW _ _ _ _ _ _ HD2.out
 have q3 : Exc (fun i => i = gr ∨ i = gd) w (W2.setRow gd (dnc (dT (tS c tv)))) := HX2.out.trans ⟨rfl, rfl, rfl, by simp [World.setRow], fun i hi hn => setRow_other _ _ _ _ (fun e => hn (.inr e))⟩
 exact ⟨rfl, _, rfl, _, results_none rfl _ _ _, rfl, rfl, q1, q2, q3⟩
theorem OG {gc gr gd : Nat} (w : World) : CallsD prog 28 #[.pointer (some ⟨gc, 0, none⟩), .pointer (some ⟨gr, 0, none⟩), .pointer (some ⟨gd, 0, none⟩)] .returning w fun e u' w' => e = .returned (.tuple #[]) ∧ u' = .returning ∧ w' = w := by
 refine callsD_of_wpS func28 rfl fun c₀ cs hu => ?_
 apply wpS_seq
 apply wpS_region
 simp [wpOpsS, go_sem, recoverD, hu, ntmps28, Exit.thenS]
 refine wpS_of_wp ?_
 have hnil : ∀ w : World, (binOp .neq 20 .nilIface .nilIface).run prog w = .ok (.bool false) w := fun w => by kernel_rfl
 have heg : ∀ w : World, (eqGuard .neq 20 (.tmp 5) (.const .nilIface) .nilIface .nilIface).run prog w = .ok () w := fun w => by kernel_rfl
 change Code.wp _ _ _ { tmps := #[.pointer (some ⟨gc, 0, none⟩), .pointer (some ⟨gr, 0, none⟩), .pointer (some ⟨gd, 0, none⟩), .nilIface, .nilIface, undef, undef, undef, undef, undef, undef], defers := [] } w
 go_wp2
 refine ⟨rfl, .returning, ?_, _, results_none rfl _ _ _, rfl, rfl, rfl⟩
 cases c₀
 simp_all
def fmF (op : Int) : Option Nat := (List.range 36).find? fun i => decide ((fmG i).1 ≤ op) && decide (op ≤ (fmG i).2.1)
theorem pT {op : Int} {i : Nat} (h : fmF op = some i) : i < 36 ∧ fmH op i := by
 have h1 := List.mem_of_find?_eq_some h
 have h2 := List.find?_some h
 simp only [Bool.and_eq_true, decide_eq_true_eq] at h2
 exact ⟨List.mem_range.1 h1, h2⟩
theorem GU {op : Int} (h : fmF op = none) : ∀ i, i < 36 → ¬ fmH op i := fun i hi hf => by
 have := List.find?_eq_none.1 h i (List.mem_range.2 hi)
 simp only [Bool.and_eq_true, decide_eq_true_eq] at this
 exact this hf
theorem PSt.exo {B : Nat} {L L1 : Lay} {S : St} {w w1 w2 : World} {G : Nat → Prop} (h : PSt B L w L1 S w1) (hx : Exc G w1 w2) (hG : ∀ q, G q → ¬ L1.own q ∧ w.heap.size ≤ q) : PSt B L w L1 S w2 :=
 ⟨h.p.exo hx (fun k hk hg => (hG k hg).1 hk), ⟨hx.os.trans h.x.os, hx.tape.trans h.x.tape, hx.output.trans h.x.output, ZqO h.x.size hx.size, fun q h1 h2 => (hx.block q (ZqS h1 h.x.size) (fun e => by have := (hG q e).2; omega)).trans (h.x.block q h1 h2)⟩, h.o, h.b⟩
theorem SY {P : Program} {c : Code} {Q : Exit → Act → World → Prop} {a : Act} {w : World} (h : c.wp P (fun e a w => e = .normal ∧ Q .normal a w) a w) : c.wp P Q a w := wp_mono h (by rintro e a w ⟨rfl, h⟩; exact h)
def rnM (V : ZqZ) (S : St) (k : Wk) : Re := match fmF k.i.op with
 | none => ⟨tS 2 (rB k.i.rw), S, k⟩
 | some i => if ftB k.i = true then rnK (aU V S (szK k i) (grI i)) else ⟨tS 2 (rB k.i.rw), S, k⟩
theorem MK {B g : Nat} {L : Lay} {S : St} {w : World} {k : Wk} {V : ZqZ} (hV : CV V) (h : Pre B L S w g k) (him : I64 k.i.im) :
  Calls prog 30 #[.pointer (some ⟨g, 0, none⟩)] w fun e w' => Ret B L w g (rnM V S k).t (rnM V S k).S (rnM V S k).k (.tuple #[]) e w' := by
 unfold rnM
 cases hf : fmF k.i.op with
 | none => exact vrun_n h (GU hf) k
 | some i =>
  obtain ⟨hi, hop⟩ := pT hf
  simp only
  cases ht : ftB k.i with
  | true => rw [if_pos rfl]; exact vrun_c hV h hi hop ht him
  | false => rw [if_neg (by simp)]; exact vrun_f h hi hop ht k
def dR (V : ZqZ) (S : St) (b : Nat) (c : Cp) (i : Ins) : Re := rnM V S (wk0 b (PR c) i)
def dC (R : Re) (c : Cp) : Cp := if R.t.is = true then PR c else R.k.k
def dD (R : Re) : Dd := if R.t.is = true then dT (tS R.t.ca R.t.tv) else R.k.d
theorem BO {B : Nat} {L : Lay} {S : St} (w : World) (h : PB B L S w) (hs : Sok S) (hT : Tb w) (hB : 0 < B) {V : ZqZ} (hV : CV V) (c : Cp) (i : Ins) (him : I64 i.im) :
  Calls prog 11 #[.agg (cpc c), .pointer (some ⟨L.b, 0, none⟩), .agg (inc i)] w fun e w' => e = .returned (.tuple #[.agg (cpc (dC (dR V S L.b c i) c)), .agg (dnc (dD (dR V S L.b c i)))]) ∧ ∃ L', PSt B L w L' (dR V S L.b c i).S w' := by
 have hmf : ∀ (fn : Fn) (first cap : Array Value) (w : World), (Instr.makeFunc fn first cap).run prog w = .ok (.func fn first cap) w := fun _ _ _ _ => rfl
 obtain ⟨W0, hW0, r0, r1, r2, r3, b0⟩ := ZJ w (cpc c) (inc i) (cpc cz) (dnc dZ) 31 48 31 44
 have HPR := Hid.mk' (fun W => jF c W)
 obtain ⟨R, hR⟩ : ∃ R, R = dR V S L.b c i := ⟨_, rfl⟩
 have HRN : Hid (∀ W L1 g, Pre B L1 S W g (wk0 L.b (PR c) i) → Calls prog 30 #[.pointer (some ⟨g, 0, none⟩)] W fun e w' => Ret B L1 W g R.t R.S R.k (.tuple #[]) e w') := fun W L1 g hp => by rw [hR]; exact MK hV hp him
 have hdc : dC (dR V S L.b c i) c = (if R.t.is = true then PR c else R.k.k) := by rw [← hR]; rfl
 have hdd : dD (dR V S L.b c i) = (if R.t.is = true then dT (tS R.t.ca R.t.tv) else R.k.d) := by rw [← hR]; rfl
 rw [hdc, hdd, ← hR]
 clear hdc hdd hR hV him
 generalize PR c = C at HPR HRN ⊢
 have HR0 := Hid.mk' r0
 have HR1 := Hid.mk' r1
 have HR2 := Hid.mk' r2
 have HR3 := Hid.mk' r3
 have HB0 := Hid.mk' b0
 have hzc := cC
 have hzd := fP
 clear r0 r1 r2 r3 b0
 go_enter_defers func11, ntmps11
 go_upto_region 1 with fail
 clear hW0 hzc hzd
 go_upto_region 2 with (first | (refine wpList_load_row (by rfl) _ _ (by rfl) _ (by rfl) 31 _ (0, 0) _ HR0.out underlying31 (by rfl) (aB _) ?_) | (go_at_call 10; refine (HPR.out _).mono ?_; rintro e w1 ⟨rfl, hb⟩; have HB1 := Hid.mk' hb; clear hb) | (refine aA (by rfl) _ _ _ (by rfl) (by rfl) _ _ _ (by rfl) (by rfl) (HR0.out.later HB1.out HR0.out.lt) (aB _) (by rw [aE, aE]) (aO _) ?_))
 refine kB (motive := fun W => Code.wp _ _ _ _ W) (Q := fun W => Row W w.heap.size (cpc C) 31 ∧ Row W (w.heap.size + 1) (inc i) 48 ∧ Row W (w.heap.size + 1 + 1) (cpc cz) 31 ∧ Row W (w.heap.size + 1 + 1 + 1) (dnc dZ) 44 ∧ Below w.heap.size w W)
  ⟨ZqW _ _ _ _ _ _ (HR0.out.later HB1.out HR0.out.lt), (setRow_other _ _ _ _ (by omega)).trans (HR1.out.later HB1.out HR1.out.lt), (setRow_other _ _ _ _ (by omega)).trans (HR2.out.later HB1.out HR2.out.lt), (setRow_other _ _ _ _ (by omega)).trans (HR3.out.later HB1.out HR3.out.lt), aW (HB0.out.trans (HB1.out.mono HB0.out.size)) (ZqE _) _⟩ ?_
 clear HR0 HR1 HR2 HR3 HB0 HB1 HPR
 rintro W2 ⟨r0, r1, r2, r3, b2⟩
 have c0 : W2.cell? ⟨w.heap.size, 0, none⟩ = some (.int .u64 (n64 C.pc)) := (r0.cell 0).trans ((bG _ 0 (by decide)).trans (by rw [nH]))
 have c7 : W2.cell? ⟨w.heap.size + 1, 7, none⟩ = some (.int .i64 i.ln) := r1.cell 7
 have HR0 := Hid.mk' r0
 have HR1 := Hid.mk' r1
 have HR2 := Hid.mk' r2
 have HR3 := Hid.mk' r3
 have HB2 := Hid.mk' b2
 have e1 : IntKind.u64.wrap i.ln = n64 (iB i.ln) := dM _
 have e2 : IntKind.u64.wrap (n64 C.pc + n64 (iB i.ln)) = n64 (C.pc + iB i.ln) := dA _ _
 clear r0 r1 r2 r3 b2
 go_upto_region 4 with (first | (refine wpList_load_row (by rfl) _ _ (by rfl) _ (by rfl) 31 _ (0, 0) _ HR0.out underlying31 (by rfl) (aB _) ?_) | (refine wpList_load_row (by rfl) _ _ (by rfl) _ (by rfl) 48 _ (0, 0) _ HR1.out underlying48 (by rfl) (fW _) ?_) | (refine aC (by rfl) 74 _ (by rfl) (wkc (wk0 L.b C i)) (by kernel_rfl) ?_))
 have HLO : Hid (∀ q, L.own q → q < w.heap.size) := fun q hq => h.own_hi q hq
 have HP3 : Hid (Pre B L S (W2.alloc (.cells (wkc (wk0 L.b C i)) 74)) W2.heap.size (wk0 L.b C i)) :=
  have hb3 : Below w.heap.size w (W2.alloc (.cells (wkc (wk0 L.b C i)) 74)) := HB2.out.trans ((aG _ _).mono HB2.out.size)
  ⟨h.later hb3, Row.new _ _ _, fun e => by have := HLO.out _ e; have := HB2.out.size; omega, rfl, hs, hT.next hb3, hB, by have q1 := h.own_lo L.b (Or.inl rfl); have q2 := h.own_hi L.b (Or.inl rfl); have := HB2.out.size; omega⟩
 have HB3 := Hid.mk' (HB2.out.trans ((aG W2 (.cells (wkc (wk0 L.b C i)) 74)).mono HB2.out.size))
 have HS0 := Hid.mk' (HR0.out.old HR0.out.lt (.cells (wkc (wk0 L.b C i)) 74))
 have HS2 := Hid.mk' (HR2.out.old HR2.out.lt (.cells (wkc (wk0 L.b C i)) 74))
 have HS3 := Hid.mk' (HR3.out.old HR3.out.lt (.cells (wkc (wk0 L.b C i)) 74))
 have hs2 : w.heap.size + 1 + 1 + 1 < W2.heap.size := HR3.out.lt
 clear HR0 HR1 HR2 HR3 HB2 c0 c7 e1 e2 hs hT hB
 generalize W2.alloc (.cells (wkc (wk0 L.b C i)) 74) = W3 at HP3 HB3 HS0 HS2 HS3 ⊢
 generalize W2.heap.size = g at HP3 hs2 ⊢
 have HQ : Hid (∀ L' S' w', Bst B L W3 g L' S' w' → PSt B L w L' S' w' ∧ Row w' w.heap.size (cpc C) 31 ∧ Row w' (w.heap.size + 1 + 1) (cpc cz) 31 ∧ Row w' (w.heap.size + 1 + 1 + 1) (dnc dZ) 44 ∧ (∀ q, w.heap.size ≤ q → q < W3.heap.size → ¬ L'.own q)) := fun L' S' w' hb => by
  have hz := HB3.out.size
  have hown : ∀ q, w.heap.size ≤ q → q < W3.heap.size → ¬ L'.own q := fun q h1 h2 e => by rcases hb.o q e with q' | q'; have := HLO.out q q'; omega; omega
  have hrow : ∀ q, w.heap.size ≤ q → q ≠ g → q < W3.heap.size → w'.heap[q]? = W3.heap[q]? := fun q h1 h2 h3 => hb.x.block q h3 (fun e => by rcases e with e | e; have := HLO.out q e; omega; exact h2 e)
  refine ⟨⟨hb.p, ⟨hb.x.os.trans HB3.out.os, hb.x.tape.trans HB3.out.tape, hb.x.output.trans HB3.out.output, ZqO HB3.out.size hb.x.size, fun q h1 h2 => (hb.x.block q (by omega) (fun e => by rcases e with e | e; exact h2 e; omega)).trans (HB3.out.block q h1)⟩, fun q hq => by rcases hb.o q hq with e | e; exact .inl e; right; omega, hb.b⟩, (hrow _ (by omega) (by omega) HS0.out.lt).trans HS0.out, (hrow _ (by omega) (by omega) HS2.out.lt).trans HS2.out, (hrow _ (by omega) (by omega) HS3.out.lt).trans HS3.out, hown⟩
 cases ht : R.t.is with
 | true =>
  go_wp2_with (go_at_call 30; refine (HRN.out _ _ _ HP3.out).mono ?_)
  rintro e w4 hp
  obtain ⟨rfl, L4, hb4, hn4⟩ := hp.no ht
  obtain ⟨p4, q0, q2, q3, ho4⟩ := HQ.out _ _ _ hb4
  have hz3 : g < W3.heap.size := HP3.out.r.lt
  refine leaves_cons (f := 28) (args := #[.pointer (some ⟨w.heap.size, 0, none⟩), .pointer (some ⟨w.heap.size + 1 + 1, 0, none⟩), .pointer (some ⟨w.heap.size + 1 + 1 + 1, 0, none⟩)]) (by simp) (by simp [go_sem]) ?_
  refine (OH R.t.ca R.t.tv [] w4 q0 q2 q3 (by omega) (by omega) (by omega)).mono ?_
  rintro e u' w5 ⟨rfl, rfl, s2, s3, sx⟩
  refine ⟨.tuple #[.agg (cpc C), .agg (dnc (dT (tS R.t.ca R.t.tv)))], kE _ _ _ _ _ _ _ _ _ _ _ _ results11 (by rfl) (by rfl) s2 s3 underlying31 (by rfl) (aB _) underlying44 (by rfl) (bE _), ?_, L4, ?_⟩
  ·rw [ht]; rfl
  ·exact p4.exo sx (fun q hq => by have := hb4.x.size; rcases hq with e | e <;> subst e <;> exact ⟨ho4 _ (by omega) (by omega), by omega⟩)
 | false =>
  go_upto_region 5 with (go_at_call 30; refine (HRN.out _ _ _ HP3.out).mono ?_; intro e w4 hp; obtain ⟨rfl, L4, hb4, hn4, hr4⟩ := hp.yes ht; have HB4 := Hid.mk' hb4; have HR4 := Hid.mk' hr4; have HN4 := Hid.mk' hn4; clear hp hb4 hr4 hn4)
  obtain ⟨p4, q0, q2, q3, ho4⟩ := HQ.out _ _ _ HB4.out
  have hz3 : g < W3.heap.size := HP3.out.r.lt
  have hz4 := HB4.out.x.size
  have hS0 : Row w4.drew g (wkc R.k) 74 := HR4.out.later (ZqD _ _).drew HR4.out.lt
  have d2 := Hid.mk' (q2.later (ZqD _ _).drew q2.lt)
  have d3 := Hid.mk' (q3.later (ZqD _ _).drew q3.lt)
  have P4 := Hid.mk' (p4.post (ZqD _ _).drew)
  have HO4 := Hid.mk' ho4
  clear HRN HP3 HQ q0 q2 q3 p4 ho4
  refine SY ?_
  refine wp_region_held (S := fun w' => Row w' g (wkc R.k) 74) (by kernel_rfl) ?_
  change wpAnyH _ _ _ _ _ _ _ _ w4.drew
  refine aF 0 (some 26) (v := .pointer (some ⟨g, 0, none⟩)) rfl (by kernel_rfl) (by kernel_rfl) (by kernel_rfl) (by kernel_rfl) (fun _ _ _ h => by cases h.1) (Or.inl ⟨by rfl, fun w9 hSw => by go_simp⟩) hS0 ?_
  try simp only [Act.put, ZqA, ZqB, ZqC]
  refine aF 1 (some 27) (v := .pointer (some ⟨g, 0, none⟩)) rfl (by kernel_rfl) (by kernel_rfl) (by kernel_rfl) (by kernel_rfl) (fun _ _ _ h => by cases h.1) (Or.inl ⟨by rfl, fun w9 hSw => by go_simp⟩) hS0 ?_
  try simp only [Act.put, ZqA, ZqB, ZqC]
  refine aF 2 (some 28) (v := .pointer (some ⟨g, 82, none⟩)) rfl (by kernel_rfl) (by kernel_rfl) (by kernel_rfl) (by kernel_rfl) (fun _ _ _ h => by cases h.1) (Or.inl ⟨by rfl, fun w9 hSw => by go_simp⟩) hS0 ?_
  try simp only [Act.put, ZqA, ZqB, ZqC]
  refine aF 3 (some 29) (v := .agg (cpc R.k.k)) rfl (by kernel_rfl) (by kernel_rfl) (by kernel_rfl) (by kernel_rfl) (fun _ _ _ h => by cases h.1) (Or.inl ⟨by rfl, fun w9 hSw => ?_⟩) hS0 ?_
  ·have q := iU (P := prog) 31 g 82 (cpc R.k.k) _ w9 (hSw.kls.kk) underlying31 (by rfl) (aB _)
   unfold execOp
   exact q
  try simp only [Act.put, ZqA, ZqB, ZqC]
  refine aF 4 (some 30) (v := .pointer (some ⟨g, 0, none⟩)) rfl (by kernel_rfl) (by kernel_rfl) (by kernel_rfl) (by kernel_rfl) (fun _ _ _ h => by cases h.1) (Or.inl ⟨by rfl, fun w9 hSw => by go_simp⟩) hS0 ?_
  try simp only [Act.put, ZqA, ZqB, ZqC]
  refine aF 5 (some 31) (v := .pointer (some ⟨g, 0, none⟩)) rfl (by kernel_rfl) (by kernel_rfl) (by kernel_rfl) (by kernel_rfl) (fun _ _ _ h => by cases h.1) (Or.inl ⟨by rfl, fun w9 hSw => by go_simp⟩) hS0 ?_
  try simp only [Act.put, ZqA, ZqB, ZqC]
  refine aF 6 (some 32) (v := .pointer (some ⟨g, 176, none⟩)) rfl (by kernel_rfl) (by kernel_rfl) (by kernel_rfl) (by kernel_rfl) (fun _ _ _ h => by cases h.1) (Or.inl ⟨by rfl, fun w9 hSw => by go_simp⟩) hS0 ?_
  try simp only [Act.put, ZqA, ZqB, ZqC]
  refine aF 7 (some 33) (v := .agg (dnc R.k.d)) rfl (by kernel_rfl) (by kernel_rfl) (by kernel_rfl) (by kernel_rfl) (fun _ _ _ h => by cases h.1) (Or.inl ⟨by rfl, fun w9 hSw => ?_⟩) hS0 ?_
  ·have q := iU (P := prog) 44 g 176 (dnc R.k.d) _ w9 (hSw.kls.dn) underlying44 (by rfl) (bE _)
   unfold execOp
   exact q
  try simp only [Act.put, ZqA, ZqB, ZqC]
  have hgr : g ≠ w.heap.size + 1 + 1 := by omega
  have hgd : g ≠ w.heap.size + 1 + 1 + 1 := by omega
  have hS1 : Row (w4.drew.setRow (w.heap.size + 1 + 1) (cpc R.k.k)) g (wkc R.k) 74 := (setRow_other _ _ _ _ hgr).trans hS0
  refine gK 8 (w4.drew.setRow (w.heap.size + 1 + 1) (cpc R.k.k)) (by kernel_rfl) rfl rfl rfl (pE 31 _ _ rfl _ (cpc cz) (cpc R.k.k) (by rfl) (by rfl) d2.out (aB _) (by rw [aE, aE]) (aO _)) hS1 ?_
  have s2 : Row (w4.drew.setRow (w.heap.size + 1 + 1) (cpc R.k.k)) (w.heap.size + 1 + 1) (cpc R.k.k) 31 := ZqW _ _ _ _ _ _ d2.out
  have s3 : Row (w4.drew.setRow (w.heap.size + 1 + 1) (cpc R.k.k)) (w.heap.size + 1 + 1 + 1) (dnc dZ) 44 := (setRow_other _ _ _ _ (by omega)).trans d3.out
  have P5 := Hid.mk' (P4.out.row (HO4.out _ (by omega) (by omega)) (by omega) (cpc R.k.k) : PSt B L w L4 R.S (w4.drew.setRow (w.heap.size + 1 + 1) (cpc R.k.k)))
  generalize w4.drew.setRow (w.heap.size + 1 + 1) (cpc R.k.k) = W5 at s2 s3 P5 hS1 ⊢
  have hS2 : Row (W5.setRow (w.heap.size + 1 + 1 + 1) (dnc R.k.d)) g (wkc R.k) 74 := (setRow_other _ _ _ _ hgd).trans hS1
  refine gK 9 (W5.setRow (w.heap.size + 1 + 1 + 1) (dnc R.k.d)) (by kernel_rfl) rfl rfl rfl (pE 44 _ _ rfl _ (dnc dZ) (dnc R.k.d) (by rfl) (by rfl) s3 (bE _) (eZ _ _) (dI _)) hS2 ?_
  have t2 : Row (W5.setRow (w.heap.size + 1 + 1 + 1) (dnc R.k.d)) (w.heap.size + 1 + 1) (cpc R.k.k) 31 := (setRow_other _ _ _ _ (by omega)).trans s2
  have t3 : Row (W5.setRow (w.heap.size + 1 + 1 + 1) (dnc R.k.d)) (w.heap.size + 1 + 1 + 1) (dnc R.k.d) 44 := ZqW _ _ _ _ _ _ s3
  have P6 := Hid.mk' (P5.out.row (HO4.out _ (by omega) (by omega)) (by omega) (dnc R.k.d) : PSt B L w L4 R.S (W5.setRow (w.heap.size + 1 + 1 + 1) (dnc R.k.d)))
  generalize W5.setRow (w.heap.size + 1 + 1 + 1) (dnc R.k.d) = W6 at t2 t3 P6 ⊢
  refine wpAnyH_done (by kernel_rfl) ?_ _
  refine ⟨rfl, ?_⟩
  go_wp2_with fail
  all_goals
   refine leaves_cons (f := 28) (args := #[.pointer (some ⟨w.heap.size, 0, none⟩), .pointer (some ⟨w.heap.size + 1 + 1, 0, none⟩), .pointer (some ⟨w.heap.size + 1 + 1 + 1, 0, none⟩)]) (by simp) (by simp [go_sem]) ?_
   refine (OG W6).mono ?_
   rintro e u' w5 ⟨rfl, rfl, rfl⟩
   refine ⟨.tuple #[.agg (cpc R.k.k), .agg (dnc R.k.d)], kE _ _ _ _ _ _ _ _ _ _ _ _ results11 (by rfl) (by rfl) t2 t3 underlying31 (by rfl) (aB _) underlying44 (by rfl) (bE _), ?_, L4, P6.out⟩
   first | rfl | (rw [ht]; rfl)
theorem VZ {S : St} {k : Wy} {z : Nat} (h : (fbd S k z).is = true) : (fbd S k z).ca = k.mi ∨ (fbd S k z).ca = k.fa := by
 unfold fbd at h ⊢
 split
 ·split
  ·rw [if_pos (by assumption), if_pos (by assumption)] at h; cases h
  ·exact .inr rfl
 ·exact .inl rfl
theorem zI {S : St} {k : Wy} {z : Nat} {f : Option (BitVec 64 → BitVec 64)} (h : (MV S k z f).t.is = true) : (MV S k z f).t.ca = k.mi ∨ (MV S k z f).t.ca = k.fa := by
 rw [UJ] at h ⊢; exact VZ h
theorem pJ {S : St} {k : Wy} {sz : Int} {f : Option (BitVec 64 → BitVec 64)} (h : (PL S k sz f).t.is = true) : (PL S k sz f).t.ca = k.mi ∨ (PL S k sz f).t.ca = k.fa := by
 unfold PL at h ⊢
 split
 ·rw [if_pos (by assumption)] at h; exact zI h
 rename_i h1
 rw [if_neg h1] at h
 split
 ·rw [if_pos (by assumption)] at h; exact zI h
 rename_i h2
 rw [if_neg h2] at h
 split
 ·rw [if_pos (by assumption)] at h; exact zI h
 rename_i h3
 rw [if_neg h3] at h
 split
 ·rw [if_pos (by assumption)] at h; exact zI h
 ·exact .inl rfl
theorem rU {S : St} {k : Wy} {sz : Int} {f : Option (BitVec 64 → BitVec 64)} (h : (AT S k sz f).t.is = true) : (AT S k sz f).t.ca = k.mi ∨ (AT S k sz f).t.ca = k.fa := by
 unfold AT at h ⊢
 split
 ·rw [if_pos (by assumption)] at h; exact pJ h
 ·exact .inl rfl
theorem tB {S : St} {k : Wy} {sz : Int} {f : Option (BitVec 64 → BitVec 64)} (hs : Sok S) : Sok (PL S k sz f).S := by
 unfold PL
 repeat' split
 all_goals first | exact MV_ok hs | exact hs
theorem xA {S : St} {k : Wy} {sz : Int} {f : Option (BitVec 64 → BitVec 64)} (hs : Sok S) : Sok (AT S k sz f).S := by
 unfold AT
 split
 ·exact tB hs
 ·exact hs
theorem UE {S : St} {K : Cp} {b : Nat} {op : Int} {ad v : BitVec 64} (hs : Sok S) : Sok (AM S K b op ad v).S := by
 unfold AM
 split
 ·exact hs
 ·exact xA hs
def okC (c : Int) : Prop := 2 ≤ c ∧ c ≤ 8 ∨ c = 11
theorem ok2 : okC 2 := by unfold okC; omega
structure Bd (S : St) (k : Wk) (R : Re) : Prop where
 s : R.t.is = true → R.S = S
 n : R.t.is = false → R.t = tN
 c : R.t.is = true → okC R.t.ca
 d : R.k.d.t = k.d.t
 i : R.k.i = k.i
 p : R.k.p = k.p
 b : R.k.b = k.b
 z : R.k.sz = k.sz
 o : Sok S → Sok R.S
theorem KF (k : Wk) (v : BitVec 64) : (ptK k v).d.t = k.d.t := by unfold ptK; split <;> rfl
theorem KH (k : Wk) (v : BitVec 64) : (ptK k v).p = k.p := by unfold ptK; split <;> rfl
theorem KI (k : Wk) (v : BitVec 64) : (ptK k v).sz = k.sz := by unfold ptK; split <;> rfl
theorem Bd.put {S : St} {k k' : Wk} {t : Tp} {S' : St} (v : BitVec 64) (h : Bd S k ⟨t, S', k'⟩) : Bd S k ⟨t, S', ptK k' v⟩ :=
 ⟨h.s, h.n, h.c, (KF _ _).trans h.d, (KG _ _).trans h.i, (KH _ _).trans h.p, (KE _ _).trans h.b, (KI _ _).trans h.z, h.o⟩
theorem Bd.plain {S : St} {k k' : Wk} (hd : k'.d.t = k.d.t) (hi : k'.i = k.i) (hp : k'.p = k.p) (hb : k'.b = k.b) (hz : k'.sz = k.sz) : Bd S k ⟨tN, S, k'⟩ := ⟨fun h => (by cases h), fun _ => rfl, fun h => (by cases h), hd, hi, hp, hb, hz, fun h => h⟩
theorem Bd.same (S : St) (k : Wk) : Bd S k ⟨tN, S, k⟩ := .plain rfl rfl rfl rfl rfl
theorem Bd.trap {S : St} {k k' : Wk} {c : Int} (tv : BitVec 64) (hc : okC c) (hd : k'.d.t = k.d.t) (hi : k'.i = k.i) (hp : k'.p = k.p) (hb : k'.b = k.b) (hz : k'.sz = k.sz) : Bd S k ⟨tS c tv, S, k'⟩ := ⟨fun _ => rfl, fun h => (by cases h), fun _ => hc, hd, hi, hp, hb, hz, fun h => h⟩
theorem Bd.acc {S : St} {k k' : Wk} {m : Mv} (hm : Trd S m) (hc : m.t.is = true → okC m.t.ca) (ho : Sok S → Sok m.S) (hd : k'.d.t = k.d.t) (hi : k'.i = k.i) (hp : k'.p = k.p) (hb : k'.b = k.b) (hz : k'.sz = k.sz) : Bd S k ⟨m.t, m.S, k'⟩ :=
 ⟨fun h => congrArg Mv.S (hm.1 h), hm.2, hc, hd, hi, hp, hb, hz, ho⟩
theorem Bd.tI {S : St} {k k' : Wk} (b : Bool) (hd : k'.d.t = k.d.t) (hi : k'.i = k.i) (hp : k'.p = k.p) (hb : k'.b = k.b) (hz : k'.sz = k.sz) : Bd S k ⟨tI b k, S, k'⟩ := by
 cases b with
 | true => exact .plain hd hi hp hb hz
 | false => exact .trap _ (by unfold okC; omega) hd hi hp hb hz
theorem okL {k : Wy} {t : Tp} (h4 : k.mi = 4 ∨ k.mi = 6) (h5 : k.fa = 5 ∨ k.fa = 7) (h : t.ca = k.mi ∨ t.ca = k.fa) : okC t.ca := by unfold okC; omega
theorem xI (S : St) (k : Wk) (z : BitVec 64) : Bd S k (csB k S z) := (Bd.tI (k := k) (k' := wrK k z) (WK k.k k.i.im) rfl rfl rfl rfl rfl).put _
theorem oT (V : ZqZ) (S : St) (k : Wk) : ∀ gr, Bd S k (aU V S k gr)
 | 0 => (Bd.same S k).put _
 | 1 => (Bd.same S k).put _
 | 2 => .plain (KF _ _) (KG _ _) (KH _ _) (KE _ _) (KI _ _)
 | 3 => .plain (KF _ _) (KG _ _) (KH _ _) (KE _ _) (KI _ _)
 | 4 => by
  show Bd S k ⟨tN, S, if tkB k.i.op (k.p.x k.n) (k.p.x k.m) = true then { k with nx := k.p.pc + iB k.i.im } else k⟩
  split
  ·exact .plain rfl rfl rfl rfl rfl
  ·exact .same S k
 | 5 => (Bd.acc (k := k) (m := mLd S k) (k' := tlK k k.k 1 (adI k) 0#64) (mB _ _ _ _) (fun h => okL (k := wL 0 (PR k.k) (adI k)) (.inl rfl) (.inl rfl) (pJ h)) tB rfl rfl rfl rfl rfl).put _
 | 6 => (Bd.acc (k := k) (m := mLd S k) (k' := tlK k k.k 1 (adI k) 0#64) (mB _ _ _ _) (fun h => okL (k := wL 0 (PR k.k) (adI k)) (.inl rfl) (.inl rfl) (pJ h)) tB rfl rfl rfl rfl rfl).put _
 | 7 => Bd.acc (k := k) (m := mSt S k) (k' := tlK k (stK (PR k.k) (mSt S k) (adI k) k.s) 2 (adI k) (k.p.x k.m)) (mB _ _ _ _) (fun h => okL (k := wS 0 (PR k.k) (adI k)) (.inr rfl) (.inr rfl) (pJ h)) tB rfl rfl rfl rfl rfl
 | 8 => (Bd.same S k).put _
 | 9 => (Bd.same S k).put _
 | 10 => .same S k
 | 11 => .trap _ (by unfold okC; split <;> omega) rfl rfl rfl rfl rfl
 | 12 => .trap _ (by unfold okC; omega) rfl rfl rfl rfl rfl
 | 13 => .tI _ rfl rfl rfl rfl rfl
 | 14 => .tI _ rfl rfl rfl rfl rfl
 | 15 => by
  show Bd S k (if RK k.k k.i.im = true then csB k S (opV k k.n) else ⟨tS 2 (rB k.i.rw), S, k⟩)
  split
  ·exact xI _ _ _
  ·exact .trap _ (by unfold okC; omega) rfl rfl rfl rfl rfl
 | 16 => by
  show Bd S k (if RK k.k k.i.im = true then (if k.i.r1 = 0 then ⟨tN, S, ptK k (rV S k.k k.i.im)⟩ else csB k S (rV S k.k k.i.im ||| opV k k.n)) else ⟨tS 2 (rB k.i.rw), S, k⟩)
  split
  ·split
   ·exact (Bd.same S k).put _
   ·exact xI _ _ _
  ·exact .trap _ (by unfold okC; omega) rfl rfl rfl rfl rfl
 | 17 => by
  show Bd S k (if RK k.k k.i.im = true then (if k.i.r1 = 0 then ⟨tN, S, ptK k (rV S k.k k.i.im)⟩ else csB k S (rV S k.k k.i.im &&& ~~~(opV k k.n))) else ⟨tS 2 (rB k.i.rw), S, k⟩)
  split
  ·split
   ·exact (Bd.same S k).put _
   ·exact xI _ _ _
  ·exact .trap _ (by unfold okC; omega) rfl rfl rfl rfl rfl
 | 18 => (Bd.acc (k := k) (m := mLr S k) (k' := tlK k (rsK (PR k.k) (mLr S k) (k.p.x k.n) k.s) 1 (k.p.x k.n) 0#64) (pI _ _ _ _) (fun h => okL (k := wL 0 (PR k.k) (k.p.x k.n)) (.inl rfl) (.inl rfl) (rU h)) xA rfl rfl rfl rfl rfl).put _
 | 19 => by
  show Bd S k ⟨(mSc S k).t, (mSc S k).S, if scB S k = true then ptK (tlK k (scC S k) 2 (k.p.x k.n) (k.p.x k.m)) 0#64 else ptK { k with k := scC S k } 1#64⟩
  have h : ∀ k', k'.d.t = k.d.t → k'.i = k.i → k'.p = k.p → k'.b = k.b → k'.sz = k.sz → Bd S k ⟨(mSc S k).t, (mSc S k).S, k'⟩ := fun k' h1 h2 h3 h4 h5 => Bd.acc (k := k) (m := mSc S k) (pI _ _ _ _) (fun h => okL (k := wS 0 (PR k.k) (k.p.x k.n)) (.inr rfl) (.inr rfl) (rU h)) xA h1 h2 h3 h4 h5
  split
  ·exact (h (tlK k (scC S k) 2 (k.p.x k.n) (k.p.x k.m)) rfl rfl rfl rfl rfl).put _
  ·exact (h { k with k := scC S k } rfl rfl rfl rfl rfl).put _
 | n + 20 => (Bd.acc (k := k) (m := mAm S k) (k' := tlK k (stK (PR k.k) (mAm S k) (k.p.x k.n) (dP k.i.op)) 3 (k.p.x k.n) (mAm S k).st) (EH _ _ _ _ _ _) (fun h => by
   have h' := h
   unfold mAm AM at h h' ⊢
   split
   ·exact ok2
   ·rename_i hz
    rw [if_neg hz] at h'
    exact okL (k := { wS 0 (PR k.k) (k.p.x k.n) with r := 3 }) (.inr rfl) (.inr rfl) (rU h')) UE rfl rfl rfl rfl rfl).put _
theorem TY (V : ZqZ) (S : St) (k : Wk) : (rnM V S k).t.is = true → (rnM V S k).S = S ∧ okC (rnM V S k).t.ca := by
 unfold rnM
 cases fmF k.i.op with
 | none => exact fun _ => ⟨rfl, ok2⟩
 | some i =>
  simp only
  split
  ·intro h
   have q := oT V S (szK k i) (grI i)
   exact ⟨q.s h, q.c h⟩
  ·exact fun _ => ⟨rfl, ok2⟩
theorem rn_n (V : ZqZ) (S : St) (k : Wk) : (rnM V S k).t.is = false → (rnM V S k).t = tN ∧ (rnM V S k).k.d.t = k.d.t := by
 unfold rnM
 cases fmF k.i.op with
 | none => exact fun h => by cases h
 | some i =>
  simp only
  split
  ·intro h
   have q := oT V S (szK k i) (grI i)
   exact ⟨q.n h, q.d⟩
  ·exact fun h => by cases h
theorem rn_ok (V : ZqZ) {S : St} (hs : Sok S) (k : Wk) : Sok (rnM V S k).S := by
 unfold rnM
 cases fmF k.i.op with
 | none => exact hs
 | some i =>
  simp only
  split
  ·exact (oT V S (szK k i) (grI i)).o hs
  ·exact hs
theorem oY {V : ZqZ} {S : St} {b : Nat} {c : Cp} {i : Ins} (h : (dR V S b c i).t.is = true) : (dR V S b c i).S = S ∧ dC (dR V S b c i) c = PR c ∧ dD (dR V S b c i) = dT (tS (dR V S b c i).t.ca (dR V S b c i).t.tv) ∧ okC (dR V S b c i).t.ca :=
 ⟨(TY V S _ h).1, by unfold dC; rw [if_pos h], by unfold dD; rw [if_pos h], (TY V S _ h).2⟩
theorem oV {V : ZqZ} {S : St} {b : Nat} {c : Cp} {i : Ins} (h : (dR V S b c i).t.is = false) : dC (dR V S b c i) c = (dR V S b c i).k.k ∧ dD (dR V S b c i) = (dR V S b c i).k.d ∧ (dR V S b c i).k.d.t = tN :=
 ⟨by unfold dC; rw [if_neg (by rw [h]; simp)], by unfold dD; rw [if_neg (by rw [h]; simp)], (rn_n V S _ h).2⟩
theorem GJ (V : ZqZ) {S : St} (hs : Sok S) (b : Nat) (c : Cp) (i : Ins) : Sok (dR V S b c i).S := rn_ok V hs _
theorem IV (S : St) (ar ai ao : Option Addr) (cr ci co : Nat) (w : World) (hs : Bs S (.slice ar S.ram.length cr) (.slice ai S.inp.length ci) (.slice ao S.out.length co) w)
  (lr : S.ram.length ≤ 140737488355328) (li : S.inp.length ≤ 140737488355328) (lo : S.out.length ≤ 140737488355328) :
  Calls prog 22 #[.agg (stc S (.slice ar S.ram.length cr) (.slice ai S.inp.length ci) (.slice ao S.out.length co))] w fun e w' => ∃ ur ui uo, e = .returned (.agg (stc S ur ui uo)) ∧ Bs S ur ui uo w' ∧ Below w.heap.size w w' := by
 obtain ⟨Z, hZ⟩ : ∃ Z : Array Value, Z = #[.slice none 0 0, .int .u32 0, .int .u64 0, .int .u64 0, .bool false, .bool false, .int .u8 0, .int .u8 0, .int .u8 0, .int .u8 0, .bool false, .slice none 0 0, .slice none 0 0, .int .i64 0, .int .i64 0] := ⟨_, rfl⟩
 have HZS : Hid (∀ u v x, Z.size = (stc S u v x).size) := fun u v x => by rw [hZ]; rfl
 obtain ⟨W0, hW0, r0, r1, b0, s0⟩ := cN w (stc S (.slice ar S.ram.length cr) (.slice ai S.inp.length ci) (.slice ao S.out.length co)) Z 35 35
 rw [hZ] at hW0
 clear hZ
 go_enter func22, ntmps22
 go_upto_region 1 with fail
 have HR0 := Hid.mk' r0.out
 have HR1 := Hid.mk' r1.out
 have HB0 := Hid.mk' b0.out
 have HS0 := Hid.mk' (hs.later b0.out)
 have HSL : Hid (∀ W', Below w.heap.size w W' → Bs S (.slice ar S.ram.length cr) (.slice ai S.inp.length ci) (.slice ao S.out.length co) W') := fun W' hb => hs.later hb
 have e2 : w.heap.size + 2 ≤ W0.heap.size := by omega
 clear hW0 s0 r0 r1 b0 HS0 hs
 -- ram
 have HW : Hid ((W0.alloc (.cells #[] 5)).ownsRow W0.heap.size 5 1 (.slice (some ⟨W0.heap.size, 0, none⟩) 0 0) 0 (bv [])) := World.ownsRow_made W0 #[] 0 (ZqE _) (Nat.zero_le _) rfl
 have HBa : Hid (Below w.heap.size w (W0.alloc (.cells #[] 5))) := HB0.out.trans ((aG _ _).mono HB0.out.size)
 have cA : (W0.alloc (.cells #[] 5)).cell? ⟨w.heap.size, 0, none⟩ = some (.slice ar S.ram.length cr) := ((HR0.out.old HR0.out.lt _).cell 0).trans rfl
 go_upto_region 2 with (at_builtin; go_loud (refine NO (by rfl) _ _ (by rfl) W0.heap.size _ _ [] S.ram (by rfl) HW.out (by rfl) (HSL.out _ HBa.out).r (by simpa using lr) (by simp) ?_; intro v0 x0 hown hg; obtain ⟨xa0, ya0, za0, rfl⟩ := eV hown; have HX := Hid.mk' (((ZqD W0.heap.size W0).alloc (ZqE _) (.cells #[] 5)).grown hg (by simp) (fun k hk => by cases hk; exact ZqE _)); have HRx := Hid.mk' (HR0.out.later HX.out HR0.out.lt); have cB : x0.cell? ⟨w.heap.size, 0, none⟩ = some (.slice ar S.ram.length cr) := (HRx.out.cell 0).trans rfl; have fB := HRx.out.froz 0; have HO := Hid.mk' hown; clear hown hg))
 refine kB (motive := fun W => Code.wp _ _ _ _ W) (Q := fun W => Row W w.heap.size (stc S (.slice xa0 ya0 za0) (.slice ai S.inp.length ci) (.slice ao S.out.length co)) 35 ∧ Row W (w.heap.size + 1) Z 35 ∧ Below w.heap.size w W ∧ w.heap.size + 2 ≤ W.heap.size ∧ W.ownsRow (w.heap.size + 2) 5 1 (.slice xa0 ya0 za0) S.ram.length (bv S.ram))
  ⟨by have r := HRx.out.put (i := 0) (.slice xa0 ya0 za0); exact r, (HR1.out.later HX.out HR1.out.lt).other (by omega) _, aM (HB0.out.trans (HX.out.mono HB0.out.size)) (ZqE _) _, by have := HX.out.size; simp; omega, lR (gW HO.out (by omega)) (by omega)⟩ ?_
 clear HW HBa cA HX HRx cB fB HO HR0 HR1 HB0 e2
 rintro W1 ⟨r0, r1, b0, e2, u0⟩
 have HR0 := Hid.mk' r0
 have HR1 := Hid.mk' r1
 have HB0 := Hid.mk' b0
 have HU0 := Hid.mk' u0
 clear r0 r1 b0 u0
 -- inp
 have HW : Hid ((W1.alloc (.cells #[] 5)).ownsRow W1.heap.size 5 1 (.slice (some ⟨W1.heap.size, 0, none⟩) 0 0) 0 (bv [])) := World.ownsRow_made W1 #[] 0 (ZqE _) (Nat.zero_le _) rfl
 have HBa : Hid (Below w.heap.size w (W1.alloc (.cells #[] 5))) := HB0.out.trans ((aG _ _).mono HB0.out.size)
 have cA : (W1.alloc (.cells #[] 5)).cell? ⟨w.heap.size, 11, none⟩ = some (.slice ai S.inp.length ci) := ((HR0.out.old HR0.out.lt _).cell 11).trans rfl
 go_upto_region 3 with (at_builtin; go_loud (refine NO (by rfl) _ _ (by rfl) W1.heap.size _ _ [] S.inp (by rfl) HW.out (by rfl) (HSL.out _ HBa.out).i (by simpa using li) (by simp) ?_; intro v1 x1 hown hg; obtain ⟨xa1, ya1, za1, rfl⟩ := eV hown; have HX := Hid.mk' (((ZqD W1.heap.size W1).alloc (ZqE _) (.cells #[] 5)).grown hg (by simp) (fun k hk => by cases hk; exact ZqE _)); have HRx := Hid.mk' (HR0.out.later HX.out HR0.out.lt); have cB : x1.cell? ⟨w.heap.size, 11, none⟩ = some (.slice ai S.inp.length ci) := (HRx.out.cell 11).trans rfl; have fB := HRx.out.froz 11; have HO := Hid.mk' hown; clear hown hg))
 refine kB (motive := fun W => Code.wp _ _ _ _ W) (Q := fun W => Row W w.heap.size (stc S (.slice xa0 ya0 za0) (.slice xa1 ya1 za1) (.slice ao S.out.length co)) 35 ∧ Row W (w.heap.size + 1) Z 35 ∧ Below w.heap.size w W ∧ w.heap.size + 2 ≤ W.heap.size ∧ W.ownsRow (w.heap.size + 2) 5 1 (.slice xa0 ya0 za0) S.ram.length (bv S.ram) ∧ W.ownsRow (w.heap.size + 2) 5 1 (.slice xa1 ya1 za1) S.inp.length (bv S.inp))
  ⟨by have r := HRx.out.put (i := 11) (.slice xa1 ya1 za1); exact r, (HR1.out.later HX.out HR1.out.lt).other (by omega) _, aM (HB0.out.trans (HX.out.mono HB0.out.size)) (ZqE _) _, by have := HX.out.size; simp; omega, lR (fL HU0.out HX.out rfl) (by omega), lR (gW HO.out (by omega)) (by omega)⟩ ?_
 clear HW HBa cA HX HRx cB fB HO HR0 HR1 HB0 e2 HU0
 rintro W2 ⟨r0, r1, b0, e2, u0, u1⟩
 have HR0 := Hid.mk' r0
 have HR1 := Hid.mk' r1
 have HB0 := Hid.mk' b0
 have HU0 := Hid.mk' u0
 have HU1 := Hid.mk' u1
 clear r0 r1 b0 u0 u1
 -- out
 have HW : Hid ((W2.alloc (.cells #[] 5)).ownsRow W2.heap.size 5 1 (.slice (some ⟨W2.heap.size, 0, none⟩) 0 0) 0 (bv [])) := World.ownsRow_made W2 #[] 0 (ZqE _) (Nat.zero_le _) rfl
 have HBa : Hid (Below w.heap.size w (W2.alloc (.cells #[] 5))) := HB0.out.trans ((aG _ _).mono HB0.out.size)
 have cA : (W2.alloc (.cells #[] 5)).cell? ⟨w.heap.size, 12, none⟩ = some (.slice ao S.out.length co) := ((HR0.out.old HR0.out.lt _).cell 12).trans rfl
 go_upto_region 4 with (at_builtin; go_loud (refine NO (by rfl) _ _ (by rfl) W2.heap.size _ _ [] S.out (by rfl) HW.out (by rfl) (HSL.out _ HBa.out).o (by simpa using lo) (by simp) ?_; intro v2 x2 hown hg; obtain ⟨xa2, ya2, za2, rfl⟩ := eV hown; have HX := Hid.mk' (((ZqD W2.heap.size W2).alloc (ZqE _) (.cells #[] 5)).grown hg (by simp) (fun k hk => by cases hk; exact ZqE _)); have HRx := Hid.mk' (HR0.out.later HX.out HR0.out.lt); have cB : x2.cell? ⟨w.heap.size, 12, none⟩ = some (.slice ao S.out.length co) := (HRx.out.cell 12).trans rfl; have fB := HRx.out.froz 12; have HO := Hid.mk' hown; clear hown hg))
 refine kB (motive := fun W => Code.wp _ _ _ _ W) (Q := fun W => Row W w.heap.size (stc S (.slice xa0 ya0 za0) (.slice xa1 ya1 za1) (.slice xa2 ya2 za2)) 35 ∧ Row W (w.heap.size + 1) Z 35 ∧ Below w.heap.size w W ∧ w.heap.size + 2 ≤ W.heap.size ∧ W.ownsRow (w.heap.size + 2) 5 1 (.slice xa0 ya0 za0) S.ram.length (bv S.ram) ∧ W.ownsRow (w.heap.size + 2) 5 1 (.slice xa1 ya1 za1) S.inp.length (bv S.inp) ∧ W.ownsRow (w.heap.size + 2) 5 1 (.slice xa2 ya2 za2) S.out.length (bv S.out))
  ⟨by have r := HRx.out.put (i := 12) (.slice xa2 ya2 za2); exact r, (HR1.out.later HX.out HR1.out.lt).other (by omega) _, aM (HB0.out.trans (HX.out.mono HB0.out.size)) (ZqE _) _, by have := HX.out.size; simp; omega, lR (fL HU0.out HX.out rfl) (by omega), lR (fL HU1.out HX.out rfl) (by omega), lR (gW HO.out (by omega)) (by omega)⟩ ?_
 clear HW HBa cA HX HRx cB fB HO HR0 HR1 HB0 e2 HU0 HU1
 rintro W3 ⟨r0, r1, b0, e2, u0, u1, u2⟩
 have HR0 := Hid.mk' r0
 have HR1 := Hid.mk' r1
 have HB0 := Hid.mk' b0
 have HU0 := Hid.mk' u0
 have HU1 := Hid.mk' u1
 have HU2 := Hid.mk' u2
 clear r0 r1 b0 u0 u1 u2
 have HI : Hid ((prog.info? 35).map (·.size) = some (stc S (.slice xa0 ya0 za0) (.slice xa1 ya1 za1) (.slice xa2 ya2 za2)).size) := cJ _ _ _ _
 have HON : Hid ((stc S (.slice xa0 ya0 za0) (.slice xa1 ya1 za1) (.slice xa2 ya2 za2)).all (·.oneCell') = true) := by unfold Hid; kernel_rfl
 have HBS : Hid (Bs S (.slice xa0 ya0 za0) (.slice xa1 ya1 za1) (.slice xa2 ya2 za2) W3) := ⟨Byt.of_own HU0.out, Byt.of_own HU1.out, Byt.of_own HU2.out⟩
 generalize hcs : stc S (.slice xa0 ya0 za0) (.slice xa1 ya1 za1) (.slice xa2 ya2 za2) = cs at HR0 HI HON
 have HZ2 : Hid (Z.size = cs.size) := by rw [← hcs]; exact HZS.out _ _ _
 go_wp2_with (first | (refine wpList_load_row (by rfl) _ _ (by rfl) _ (by rfl) 35 _ (0, 0) _ HR0.out underlying35 (by rfl) HI.out ?_) | (refine aA (by rfl) _ _ _ (by rfl) (by rfl) _ _ _ (by rfl) (by rfl) HR1.out HI.out HZ2.out HON.out ?_))
 refine ZqH (v := .agg cs) (ZqM results22 _ _ (w.heap.size + 1) 35 _ (0, 0) _ (by rfl) (ZqW _ _ _ _ _ _ HR1.out) underlying35 (by rfl) HI.out) rfl ?_
 refine ⟨.slice xa0 ya0 za0, .slice xa1 ya1 za1, .slice xa2 ya2 za2, by rw [hcs], ?_, aW HB0.out (by omega) _⟩
 have ow : ∀ {v : Value} {l : List Int}, W3.ownsRow (w.heap.size + 2) 5 1 v l.length (bv l) → Byt (W3.setRow (w.heap.size + 1) cs) v l := fun {v l} h => Byt.of_own (eJ h ⟨rfl, rfl, rfl, by simp [World.setRow], fun k hk hn => setRow_other _ _ _ _ hn⟩ (fun k hk e => by have := (h.lt k hk).1; omega))
 exact ⟨ow HU0.out, ow HU1.out, ow HU2.out⟩
theorem TV (x : Int) (w : World) : Calls prog 23 #[.int .i64 x] w fun e w' => e = .returned (.int .i64 x) ∧ w' = w := by
 go_enter func23, ntmps23
 go_wp2
 go_ret
 exact ⟨rfl, rfl⟩
theorem qF (S : St) (ar ai ao : Option Addr) (cr ci co : Nat) (w : World) (hok : S.ok = false) :
  Calls prog 8 #[.agg (stc S (.slice ar S.ram.length cr) (.slice ai S.inp.length ci) (.slice ao S.out.length co))] w fun e w' => e = .returned (.tuple #[.pointer none, .bool false]) ∧ Below w.heap.size w w' := by
 obtain ⟨W0, hW0, r0, b0, s0⟩ := cT w (stc S (.slice ar S.ram.length cr) (.slice ai S.inp.length ci) (.slice ao S.out.length co)) 35
 have HC : Hid (∀ w1, Calls prog 20 #[.agg (stc S (.slice ar S.ram.length cr) (.slice ai S.inp.length ci) (.slice ao S.out.length co))] w1 fun e w' => e = .returned (.bool false) ∧ Below w1.heap.size w1 w') := fun w1 => by rw [← hok]; exact wG S ar ai ao cr ci co w1
 have HI : Hid ((prog.info? 35).map (·.size) = some (stc S (.slice ar S.ram.length cr) (.slice ai S.inp.length ci) (.slice ao S.out.length co)).size) := cJ _ _ _ _
 have HR0 := Hid.mk' r0.out
 clear s0 hok r0
 generalize (stc S (.slice ar S.ram.length cr) (.slice ai S.inp.length ci) (.slice ao S.out.length co)) = cs at HC HI HR0 hW0 ⊢
 go_enter func8, ntmps8
 go_upto_region 1 with fail
 clear hW0
 go_wp2_with (first | (refine wpList_load_row (by rfl) _ _ (by rfl) _ (by rfl) 35 _ (0, 0) _ HR0.out underlying35 (by rfl) HI.out ?_) | (go_at_call 20; refine (HC.out _).mono ?_; rintro e w1 ⟨rfl, hb⟩; have HB := Hid.mk' hb; clear hb))
 go_ret2
 exact ⟨rfl, b0.out.trans (HB.out.mono b0.out.size)⟩
theorem qG (S : St) (ar ai ao : Option Addr) (cr ci co : Nat) (w : World) (hok : S.ok = true) (hs : Bs S (.slice ar S.ram.length cr) (.slice ai S.inp.length ci) (.slice ao S.out.length co) w) (lr : S.ram.length ≤ 140737488355328) (li : S.inp.length ≤ 140737488355328) (lo : S.out.length ≤ 140737488355328) :
  Calls prog 8 #[.agg (stc S (.slice ar S.ram.length cr) (.slice ai S.inp.length ci) (.slice ao S.out.length co))] w fun e w' => ∃ L, e = .returned (.tuple #[.pointer (some ⟨L.b, 0, none⟩), .bool true]) ∧ PB w.heap.size L S w' ∧ Below w.heap.size w w' := by
 obtain ⟨W0, hW0, r0, b0, s0⟩ := cT w (stc S (.slice ar S.ram.length cr) (.slice ai S.inp.length ci) (.slice ao S.out.length co)) 35
 have HC : Hid (∀ w1, Calls prog 20 #[.agg (stc S (.slice ar S.ram.length cr) (.slice ai S.inp.length ci) (.slice ao S.out.length co))] w1 fun e w' => e = .returned (.bool true) ∧ Below w1.heap.size w1 w') := fun w1 => by rw [← hok]; exact wG S ar ai ao cr ci co w1
 have HI : Hid ((prog.info? 35).map (·.size) = some (stc S (.slice ar S.ram.length cr) (.slice ai S.inp.length ci) (.slice ao S.out.length co)).size) := cJ _ _ _ _
 have HS : Hid (∀ W, Below w.heap.size w W → Calls prog 22 #[.agg (stc S (.slice ar S.ram.length cr) (.slice ai S.inp.length ci) (.slice ao S.out.length co))] W fun e w' => ∃ ur ui uo, e = .returned (.agg (stc S ur ui uo)) ∧ Bs S ur ui uo w' ∧ Below W.heap.size W w') := fun W hb => IV S ar ai ao cr ci co W (hs.later hb) lr li lo
 have HF : Hid (∀ W ur ui uo, Bs S ur ui uo W → Calls prog 21 #[.agg (stc S ur ui uo)] W fun e w' => ∃ L, e = .returned (.tuple #[.pointer (some ⟨L.b, 0, none⟩), .int .i64 0]) ∧ PB W.heap.size L S w' ∧ Below W.heap.size W w') := fun W ur ui uo hb => by
  obtain ⟨a1, c1, rfl, _⟩ := id hb.r
  obtain ⟨a2, c2, rfl, _⟩ := id hb.i
  obtain ⟨a3, c3, rfl, _⟩ := id hb.o
  exact IC S a1 a2 a3 c1 c2 c3 W hok hb.r hb.i hb.o lr li lo
 have HR0 := Hid.mk' r0.out
 clear s0 hok r0 hs lr li lo
 generalize (stc S (.slice ar S.ram.length cr) (.slice ai S.inp.length ci) (.slice ao S.out.length co)) = cs at HC HI HR0 HS hW0 ⊢
 go_enter func8, ntmps8
 go_upto_region 1 with fail
 clear hW0
 go_upto_region 4 with (first | (refine wpList_load_row (by rfl) _ _ (by rfl) _ (by rfl) 35 _ (0, 0) _ HR0.out underlying35 (by rfl) HI.out ?_) | (go_at_call 20; refine (HC.out _).mono ?_; rintro e w1 ⟨rfl, hb⟩; have HB := Hid.mk' hb; clear hb))
 have HR1 := Hid.mk' (HR0.out.later HB.out HR0.out.lt)
 clear HR0
 go_wp2_with (first | (refine wpList_load_row (by rfl) _ _ (by rfl) _ (by rfl) 35 _ (0, 0) _ HR1.out underlying35 (by rfl) HI.out ?_) | (go_at_call 22; refine (HS.out _ (b0.out.trans (HB.out.mono b0.out.size))).mono ?_; rintro e w2 ⟨ur, ui, uo, rfl, hbs, hb⟩; have HBS := Hid.mk' hbs; have HB2 := Hid.mk' hb; clear hb hbs) | (go_at_call 21; refine (HF.out _ _ _ _ HBS.out).mono ?_; rintro e w3 ⟨L, rfl, hp, hb⟩; have HP := Hid.mk' hp; have HB3 := Hid.mk' hb; clear hb hp) | (go_at_call 23; refine (TV _ _).mono ?_; rintro e w5 ⟨rfl, hw5⟩; have hw52 := hw5.symm; subst hw52))
 go_ret2
 have q1 := b0.out.trans (HB.out.mono b0.out.size)
 have q2 := q1.trans (HB2.out.mono q1.size)
 exact ⟨L, rfl, HP.out.le q2.size, q2.trans (HB3.out.mono q2.size)⟩
end Go.Proofs.YtddlmenfcbjoaaaGreatDoor
