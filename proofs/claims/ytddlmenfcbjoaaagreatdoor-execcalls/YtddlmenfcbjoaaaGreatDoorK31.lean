import Derived.Test.YtddlmenfcbjoaaaGreatDoorK29
import Derived.Test.YtddlmenfcbjoaaaGreatDoorK30
namespace Go.Proofs.YtddlmenfcbjoaaaGreatDoor
set_option linter.unusedVariables false
set_option maxRecDepth 100000
set_option maxHeartbeats 8000000
open Go.ChangeShapes Go.WideShapes Go.ChangeAt Go.RowKit Go.Deep _root_.Go.Proofs.Tryz
theorem gK {P : Program} {md : Region.Mode} {ops : Array Oper} {Q : Exit → Act → World → Prop} {S : World → Prop} {fuel : Nat} {listed : Array Bool} {a : Act} {w : World} (i : Nat) {o : Oper} (w' : World) (hr : Region.ready md ops listed = [i]) (ho : ops[i]? = some o) (hg : o.guard = none) (hd : o.dst = none)
  (he : (execOp a.eval o).run P w = .ok .skip w') (hS : S w') (h : wpAnyH P md ops Q S fuel (listed.setIfInBounds i true) a w') : wpAnyH P md ops Q S (fuel + 1) listed a w := by
 refine wpAnyH_all hr (by simp) (fun j hj => ?_)
 obtain rfl : j = i := by simpa using hj
 refine wpOp_step ho (fun K hK => ?_)
 rw [if_pos (by simp [Region.wanted, hg])]
 unfold Oper.wp
 rw [he]
 have q := hK a w' ⟨hS, h⟩
 simpa [Oper.upon, Act.put, hd] using q
theorem LB {P : Program} {o : Oper} {ρ : Operand → Value} {w : World} (t : TypeId) (x y : Operand) (ho : o.op = .store t x y) (g off : Nat) (c' : Array Value) (hx : ρ x = .pointer (some ⟨g, off, none⟩)) (hy : ρ y = .agg c') (ht : w.there g off c'.size) (hi : (P.info? t).map (·.size) = some c'.size) (h1 : c'.all (·.oneCell') = true) :
  (execOp ρ o).run P w = .ok .skip (w.setCells g off c'.toList) := by
 unfold execOp
 simp only [ho, hx, hy, Instr.storeAt, Instr.sureAddr, Sem.run_bind, Sem.run_pure, Result.andThen_ok, run_storeVar_mid w g off t c' ht hi h1]
theorem dS {P : Program} {ops : Array Oper} {rest : List Oper} {o : Oper} {a : Act} {w : World} {Q : Exit → Act → World → Prop} (hgd : o.guard = none) (T : TypeId) (ho : o.op = .alloc T) (z : Array Value) (hz : ∀ w : World, (zeroValue T).run P w = .ok (.agg z) w)
  (h : wpList P ops Q rest (a.put o.dst (.pointer (some ⟨w.heap.size, 0, none⟩))) (w.alloc (.cells z T))) : wpList P ops Q (o :: rest) a w :=
 wpList_plain hgd fun _ hK => by
  have e : (execOp a.eval o).run P w = .ok (.value (.pointer (some ⟨w.heap.size, 0, none⟩))) (w.alloc (.cells z T)) := by
   have hz' := hz w
   generalize a.eval = ρ
   simp [execOp, ho, go_sem, hz']
  unfold Oper.wp
  rw [e]
  exact hK _ _ h
theorem SM {g : Nat} {k : Wk} {w : World} (hr : Row w g (wkc k) 74) (hk : RTk k.k = false) : Calls prog 71 #[.pointer (some ⟨g, 0, none⟩)] w fun e w' => Thr 2 (rB k.i.rw) w e w' := by
 have HC := Hid.mk' (fun W => uS k.k W)
 have HKK := Hid.mk' hr.kls.kk
 have HR := Hid.mk' hr
 have hlt := hr.lt
 rw [hk] at HC
 have HS : Hid (∀ W, Row W g (wkc k) 74 → Calls prog 44 #[.pointer (some ⟨g, 0, none⟩), .bool false] W fun e w' => Thr 2 (rB k.i.rw) W e w') := fun W h => hH h
 generalize RTc k.k = c at HC
 have HZ0 : Hid ((cpc cz).size = (cpc c).size) := by unfold Hid; rw [aE, aE]
 clear hr hk
 go_enter func71, ntmps71
 go_wp2_with (first | (refine aY (by rfl) 31 _ (by rfl) g 82 (by rfl) (cpc k.k) _ HKK.out underlying31 (by rfl) (aB _) ?_) | (go_at_call 99; refine (HC.out _).mono ?_; rintro e w1 ⟨rfl, hb⟩; have HB := Hid.mk' hb; clear hb HKK) | (refine dS (by rfl) 31 (by rfl) (cpc cz) cC ?_) | (have hz0 := HZ0.out; clear HZ0; refine aK (by rfl) 31 _ _ (by rfl) (by rfl) (cpc cz) (cpc c) (by rfl) (by rfl) (aB _) hz0 (aO _) ?_) | (go_at_call 44; refine (HS.out _ ((HR.out.later HB.out HR.out.lt).old (ZqS hlt HB.out.size) _)).mono ?_))
 rintro e w' hp
 obtain ⟨rfl, hb⟩ := hp
 exact ⟨rfl, rfl, (HB.out.trans ((aG _ _).mono HB.out.size)).trans (hb.mono (by have := HB.out.size; simp; omega))⟩
theorem SN {g : Nat} {k : Wk} {w : World} (hr : Row w g (wkc k) 74) (hk : RTk k.k = true) : Calls prog 71 #[.pointer (some ⟨g, 0, none⟩)] w fun e w' => e = .returned (.tuple #[]) ∧ Mk g w w' { k with k := RTc k.k, nx := (RTc k.k).pc } := by
 have HC := Hid.mk' (fun W => uS k.k W)
 have HKK := Hid.mk' hr.kls.kk
 have HR := Hid.mk' hr
 have hlt := hr.lt
 rw [hk] at HC
 obtain ⟨c, hc⟩ : ∃ c, c = RTc k.k := ⟨_, rfl⟩
 rw [← hc] at HC ⊢
 clear hc hr hk
 have HZ0 : Hid ((cpc cz).size = (cpc c).size) := by unfold Hid; rw [aE, aE]
 go_enter func71, ntmps71
 go_upto_region 2 with (first | (refine aY (by rfl) 31 _ (by rfl) g 82 (by rfl) (cpc k.k) _ HKK.out underlying31 (by rfl) (aB _) ?_) | (go_at_call 99; refine (HC.out _).mono ?_; rintro e w1 ⟨rfl, hb⟩; have HB := Hid.mk' hb; clear hb HKK) | (refine dS (by rfl) 31 (by rfl) (cpc cz) cC ?_) | (have hz0 := HZ0.out; clear HZ0; refine aK (by rfl) 31 _ _ (by rfl) (by rfl) (cpc cz) (cpc c) (by rfl) (by rfl) (aB _) hz0 (aO _) ?_) | (go_at_call 44; refine (jR _ _).mono ?_; rintro e w5 ⟨rfl, hw5⟩; have hw52 := hw5.symm; subst hw52))
 refine kB (motive := fun W => Code.wp _ _ _ _ W) (Q := fun W => Mk g w W k ∧ Row W w1.heap.size (cpc c) 31) ⟨Mk.later HR.out (HB.out.trans ((aG _ _).mono HB.out.size)), Row.new w1 _ _⟩ ?_
 clear HC
 have hne : w1.heap.size ≠ g := by have := HB.out.size; omega
 clear HB
 generalize w1.heap.size = gc at hne ⊢
 rintro W2 ⟨m2, r2⟩
 have HM := Hid.mk' m2
 have HG := Hid.mk' r2
 clear m2 r2
 refine wp_region_held (S := fun w' => Row w' gc (cpc c) 31) (by kernel_rfl) ?_
 have hS0 : Row W2.drew gc (cpc c) 31 := HG.out.later (ZqD _ _).drew HG.out.lt
 change wpAnyH _ _ _ _ _ _ _ _ W2.drew
 refine aF 0 (some 15) (v := .pointer (some ⟨g, 0, none⟩)) rfl (by kernel_rfl) (by kernel_rfl) (by kernel_rfl) (by kernel_rfl) (fun _ _ _ h => h) (Or.inl ⟨by rfl, fun w9 hSw => by go_simp⟩) hS0 ?_
 try simp only [Act.put, ZqA, ZqB, ZqC]
 refine aF 1 (some 16) (v := .pointer (some ⟨g, 0, none⟩)) rfl (by kernel_rfl) (by kernel_rfl) (by kernel_rfl) (by kernel_rfl) (fun _ _ _ h => h) (Or.inl ⟨by rfl, fun w9 hSw => by go_simp⟩) hS0 ?_
 try simp only [Act.put, ZqA, ZqB, ZqC]
 refine aF 2 (some 17) (v := .agg (cpc c)) rfl (by kernel_rfl) (by kernel_rfl) (by kernel_rfl) (by kernel_rfl) (fun _ _ _ h => h) (Or.inl ⟨by rfl, fun w9 hSw => ?_⟩) hS0 ?_
 ·have q := bQ (P := prog) 31 gc (cpc c) _ w9 hSw underlying31 (by rfl) (aB _)
  unfold execOp
  exact q
 try simp only [Act.put, ZqA, ZqB, ZqC]
 refine aF 3 (some 18) (v := .pointer (some ⟨gc, 0, none⟩)) rfl (by kernel_rfl) (by kernel_rfl) (by kernel_rfl) (by kernel_rfl) (fun _ _ _ h => h) (Or.inl ⟨by rfl, fun w9 hSw => by go_simp⟩) hS0 ?_
 try simp only [Act.put, ZqA, ZqB, ZqC]
 refine aF 4 (some 19) (v := .int .u64 (n64 c.pc)) rfl (by kernel_rfl) (by kernel_rfl) (by kernel_rfl) (by kernel_rfl) (fun _ _ _ h => h) (Or.inl ⟨by rfl, fun w9 hSw => by have q97 : w9.cell? ⟨gc, 0, none⟩ = some (.int .u64 (n64 c.pc)) := (hSw.cell 0).trans ((bG c 0 (by decide)).trans (by rw [nH])); go_simp⟩) hS0 ?_
 try simp only [Act.put, ZqA, ZqB, ZqC]
 refine aF 5 (some 20) (v := .pointer (some ⟨g, 0, none⟩)) rfl (by kernel_rfl) (by kernel_rfl) (by kernel_rfl) (by kernel_rfl) (fun _ _ _ h => h) (Or.inl ⟨by rfl, fun w9 hSw => by go_simp⟩) hS0 ?_
 try simp only [Act.put, ZqA, ZqB, ZqC]
 refine aF 6 (some 21) (v := .pointer (some ⟨g, 82, none⟩)) rfl (by kernel_rfl) (by kernel_rfl) (by kernel_rfl) (by kernel_rfl) (fun _ _ _ h => h) (Or.inl ⟨by rfl, fun w9 hSw => by go_simp⟩) hS0 ?_
 try simp only [Act.put, ZqA, ZqB, ZqC]
 have HMd := Hid.mk' (HM.out.trans (Mk.later HM.out.r (ZqD _ _).drew))
 have HM7 := Hid.mk' (HMd.out.row c)
 have hS7 : Row (W2.drew.setCells g 82 (cpc c).toList) gc (cpc c) 31 := Row.lays hne (cpc c).toList 82 hS0
 refine gK 7 (W2.drew.setCells g 82 (cpc c).toList) (by kernel_rfl) rfl rfl rfl (LB 31 _ _ rfl g 82 (cpc c) (by rfl) (by rfl) (mF HMd.out.r c) (aB _) (aO _)) hS7 ?_
 generalize W2.drew.setCells g 82 (cpc c).toList = W7 at HM7 hS7 ⊢
 refine aF 8 (some 22) (v := .pointer (some ⟨g, 0, none⟩)) rfl (by kernel_rfl) (by kernel_rfl) (by kernel_rfl) (by kernel_rfl) (fun _ _ _ h => h) (Or.inl ⟨by rfl, fun w9 hSw => by go_simp⟩) hS7 ?_
 try simp only [Act.put, ZqA, ZqB, ZqC]
 refine aF 9 (some 23) (v := .pointer (some ⟨g, 175, none⟩)) rfl (by kernel_rfl) (by kernel_rfl) (by kernel_rfl) (by kernel_rfl) (fun _ _ _ h => h) (Or.inl ⟨by rfl, fun w9 hSw => by go_simp⟩) hS7 ?_
 try simp only [Act.put, ZqA, ZqB, ZqC]
 have c7 := HM7.out.r.kls.nx
 have f7 := HM7.out.r.froz 175
 have HM8 := Hid.mk' (HM7.out.set (zF _ c.pc))
 have hS8 : Row (W7.setCell ⟨g, 175, none⟩ (.int .u64 (n64 c.pc))) gc (cpc c) 31 := hS7.other hne _
 refine gK 10 (W7.setCell ⟨g, 175, none⟩ (.int .u64 (n64 c.pc))) (by kernel_rfl) rfl rfl rfl (by go_simp) hS8 ?_
 refine wpAnyH_done (by kernel_rfl) ?_ _
 go_wp2_with fail
 first | go_end0 | refine ZqH (results_none rfl _ _ _) rfl ?_
 exact ⟨rfl, HM8.out⟩
theorem vwfi_n {g : Nat} {k : Wk} {w : World} (hr : Row w g (wkc k) 74) (hk : WTk k.k = false) : Calls prog 72 #[.pointer (some ⟨g, 0, none⟩)] w fun e w' => Thr 2 (rB k.i.rw) w e w' := by
 have HC := Hid.mk' (fun W => ET k.k W)
 have HKK := Hid.mk' hr.kls.kk
 have HR := Hid.mk' hr
 have hlt := hr.lt
 rw [hk] at HC
 have HS : Hid (∀ W, Row W g (wkc k) 74 → Calls prog 44 #[.pointer (some ⟨g, 0, none⟩), .bool false] W fun e w' => Thr 2 (rB k.i.rw) W e w') := fun W h => hH h
 generalize WTc k.k = c at HC
 have HZ0 : Hid ((cpc cz).size = (cpc c).size) := by unfold Hid; rw [aE, aE]
 clear hr hk
 go_enter func72, ntmps72
 go_wp2_with (first | (refine aY (by rfl) 31 _ (by rfl) g 82 (by rfl) (cpc k.k) _ HKK.out underlying31 (by rfl) (aB _) ?_) | (go_at_call 100; refine (HC.out _).mono ?_; rintro e w1 ⟨rfl, hb⟩; have HB := Hid.mk' hb; clear hb HKK) | (refine dS (by rfl) 31 (by rfl) (cpc cz) cC ?_) | (have hz0 := HZ0.out; clear HZ0; refine aK (by rfl) 31 _ _ (by rfl) (by rfl) (cpc cz) (cpc c) (by rfl) (by rfl) (aB _) hz0 (aO _) ?_) | (go_at_call 44; refine (HS.out _ ((HR.out.later HB.out HR.out.lt).old (ZqS hlt HB.out.size) _)).mono ?_))
 rintro e w' hp
 obtain ⟨rfl, hb⟩ := hp
 exact ⟨rfl, rfl, (HB.out.trans ((aG _ _).mono HB.out.size)).trans (hb.mono (by have := HB.out.size; simp; omega))⟩
theorem vwfi_y {g : Nat} {k : Wk} {w : World} (hr : Row w g (wkc k) 74) (hk : WTk k.k = true) : Calls prog 72 #[.pointer (some ⟨g, 0, none⟩)] w fun e w' => e = .returned (.tuple #[]) ∧ Mk g w w' { k with k := WTc k.k } := by
 have HC := Hid.mk' (fun W => ET k.k W)
 have HKK := Hid.mk' hr.kls.kk
 have HR := Hid.mk' hr
 have hlt := hr.lt
 rw [hk] at HC
 obtain ⟨c, hc⟩ : ∃ c, c = WTc k.k := ⟨_, rfl⟩
 rw [← hc] at HC ⊢
 clear hc hr hk
 have HZ0 : Hid ((cpc cz).size = (cpc c).size) := by unfold Hid; rw [aE, aE]
 go_enter func72, ntmps72
 go_upto_region 2 with (first | (refine aY (by rfl) 31 _ (by rfl) g 82 (by rfl) (cpc k.k) _ HKK.out underlying31 (by rfl) (aB _) ?_) | (go_at_call 100; refine (HC.out _).mono ?_; rintro e w1 ⟨rfl, hb⟩; have HB := Hid.mk' hb; clear hb HKK) | (refine dS (by rfl) 31 (by rfl) (cpc cz) cC ?_) | (have hz0 := HZ0.out; clear HZ0; refine aK (by rfl) 31 _ _ (by rfl) (by rfl) (cpc cz) (cpc c) (by rfl) (by rfl) (aB _) hz0 (aO _) ?_) | (go_at_call 44; refine (jR _ _).mono ?_; rintro e w5 ⟨rfl, hw5⟩; have hw52 := hw5.symm; subst hw52))
 refine kB (motive := fun W => Code.wp _ _ _ _ W) (Q := fun W => Mk g w W k ∧ Row W w1.heap.size (cpc c) 31) ⟨Mk.later HR.out (HB.out.trans ((aG _ _).mono HB.out.size)), Row.new w1 _ _⟩ ?_
 clear HC
 have hne : w1.heap.size ≠ g := by have := HB.out.size; omega
 clear HB
 generalize w1.heap.size = gc at hne ⊢
 rintro W2 ⟨m2, r2⟩
 have HM := Hid.mk' m2
 have HG := Hid.mk' r2
 clear m2 r2
 go_wp2_with (first | (refine wpList_load_row (by rfl) _ _ (by rfl) _ (by rfl) 31 _ (0, 0) _ HG.out underlying31 (by rfl) (aB _) ?_) | (refine aX (by rfl) 31 _ _ (by rfl) (by rfl) g 82 (cpc c) (by rfl) (by rfl) (mF HM.out.r c) (aB _) (aO _) ?_; refine kB (motive := fun W => wpList _ _ _ _ _ W) (Q := fun W => Mk g w W { k with k := c }) (HM.out.row c) ?_; clear HM; rintro W7 m7; have HM7 := Hid.mk' m7; clear m7))
 first | go_end0 | refine ZqH (results_none rfl _ _ _) rfl ?_
 exact ⟨rfl, HM7.out⟩
def OJ (c : Nat → BitVec 8) (f : Nat) : BitVec 64 := BitVec.ofNat 64 (VF (cby c f) 8)
theorem FN (c : Nat → BitVec 8) (f : Nat) : vD c f = n64 (OJ c f) := by
 unfold vD OJ n64
 rw [ZqR, ZqV (ZqS (ES _ (FL c f) 8) (by decide))]
theorem NE (k : Cp) (m t : BitVec 64) (n : Int) : ∃ b, TO k m t n = n64 b := by
 unfold TO
 by_cases q3859 : n = 3859
 ·rw [if_pos q3859]; exact ⟨1#64, rfl⟩
 rw [if_neg q3859]
 by_cases q768 : n = 768
 ·rw [if_pos q768]; exact ⟨k.s 0, rfl⟩
 rw [if_neg q768]
 by_cases q769 : n = 769
 ·rw [if_pos q769]; exact ⟨9223372036855828741#64, rfl⟩
 rw [if_neg q769]
 by_cases q772 : n = 772
 ·rw [if_pos q772]; exact ⟨k.s 2, rfl⟩
 rw [if_neg q772]
 by_cases q773 : n = 773
 ·rw [if_pos q773]; exact ⟨k.s 1, rfl⟩
 rw [if_neg q773]
 by_cases q774 : n = 774
 ·rw [if_pos q774]; exact ⟨k.s 3, rfl⟩
 rw [if_neg q774]
 by_cases q778 : n = 778
 ·rw [if_pos q778]; exact ⟨k.s 5, rfl⟩
 rw [if_neg q778]
 by_cases q800 : n = 800
 ·rw [if_pos q800]; exact ⟨k.s 4, rfl⟩
 rw [if_neg q800]
 by_cases q832 : n = 832
 ·rw [if_pos q832]; exact ⟨k.s 6, rfl⟩
 rw [if_neg q832]
 by_cases q833 : n = 833
 ·rw [if_pos q833]; exact ⟨k.s 7, rfl⟩
 rw [if_neg q833]
 by_cases q834 : n = 834
 ·rw [if_pos q834]; exact ⟨k.s 8, rfl⟩
 rw [if_neg q834]
 by_cases q835 : n = 835
 ·rw [if_pos q835]; exact ⟨k.s 9, rfl⟩
 rw [if_neg q835]
 by_cases q836 : n = 836
 ·rw [if_pos q836]; exact ⟨(m &&& 2184#64), rfl⟩
 rw [if_neg q836]
 by_cases q928 : n = 928
 ·rw [if_pos q928]; exact ⟨OJ (PC k.c) 0, FN _ _⟩
 rw [if_neg q928]
 by_cases q930 : n = 930
 ·rw [if_pos q930]; exact ⟨OJ (PC k.c) 8, FN _ _⟩
 rw [if_neg q930]
 by_cases q2816 : n = 2816
 ·rw [if_pos q2816]; exact ⟨k.s 10, rfl⟩
 rw [if_neg q2816]
 by_cases q3072 : n = 3072
 ·rw [if_pos q3072]; exact ⟨k.s 10, rfl⟩
 rw [if_neg q3072]
 by_cases q2818 : n = 2818
 ·rw [if_pos q2818]; exact ⟨k.s 11, rfl⟩
 rw [if_neg q2818]
 by_cases q3074 : n = 3074
 ·rw [if_pos q3074]; exact ⟨k.s 11, rfl⟩
 rw [if_neg q3074]
 by_cases q3073 : n = 3073
 ·rw [if_pos q3073]; exact ⟨t, rfl⟩
 rw [if_neg q3073]
 by_cases hw : 944 ≤ n ∧ n ≤ 959
 ·rw [if_pos hw]; exact ⟨_, rfl⟩
 ·rw [if_neg hw]; exact ⟨0#64, rfl⟩
def mM (S : St) : BitVec 64 := iB (vV S)
def tM (S : St) : BitVec 64 := iB S.time
def rV (S : St) (k : Cp) (n : Int) : BitVec 64 := iB (RD k (mM S) (tM S) n)
theorem yB {z : Int} (h0 : 0 ≤ z) (h1 : z ≤ 18446744073709551615) : n64 (iB z) = z := by
 rw [iB, ← dM]
 show z % 18446744073709551616 = z
 omega
theorem yD (S : St) : n64 (mM S) = vV S := by
 refine yB ?_ ?_ <;> (unfold vV; (repeat' split) <;> omega)
theorem yF {S : St} (h : Sok S) : n64 (tM S) = S.time := yB h.st.time.1 h.st.time.2
theorem yE (S : St) (k : Cp) (n : Int) : n64 (rV S k n) = RD k (mM S) (tM S) n := by
 have : ∃ b, RD k (mM S) (tM S) n = n64 b := by
  unfold RD
  split
  ·exact NE _ _ _ _
  ·exact ⟨0#64, rfl⟩
 obtain ⟨b, hb⟩ := this
 have h1 : n64 b ≤ 18446744073709551615 := by unfold n64; have := b.isLt; omega
 have h0 : 0 ≤ n64 b := by unfold n64; omega
 unfold rV
 rw [hb]
 exact yB h0 h1
theorem iF {B g : Nat} {L : Lay} {S : St} {w : World} {k : Wk} (h : Pre B L S w g k) (hi : I64 k.i.im) (hk : RK k.k k.i.im = true) : Calls prog 101 #[.pointer (some ⟨g, 0, none⟩)] w fun e w' => e = .returned (.int .u64 (n64 (rV S k.k k.i.im))) ∧ Below w.heap.size w w' := by
 have HR := Hid.mk' h.r
 have HKK := Hid.mk' h.r.kls.kk
 have hlt := h.r.lt
 have cb := h.r.kls.b
 rw [h.bb] at cb
 have := aS w
 have L1 : ∀ x : bB w, x.1.cell? ⟨g, 164, none⟩ = some (.pointer (some ⟨L.b, 0, none⟩)) := cG hlt cb
 have HM : Hid (∀ x : bB w, Calls prog 15 #[.pointer (some ⟨L.b, 0, none⟩)] x.1 fun e w' => e = .returned (.int .u64 (n64 (mM S))) ∧ Below x.1.heap.size x.1 w') := fun x => by rw [yD]; exact IX x.1 (h.p.later x.below) h.s.st.ier
 have HT : Hid (∀ x : bB w, Calls prog 16 #[.pointer (some ⟨L.b, 0, none⟩)] x.1 fun e w' => e = .returned (.int .u64 (n64 (tM S))) ∧ Below x.1.heap.size x.1 w') := fun x => by rw [yF h.s]; exact yV x.1 (h.p.later x.below)
 have HN : Hid (∀ W, Row W g (wkc k) 74 → Calls prog 135 #[.pointer (some ⟨g, 0, none⟩)] W fun e w' => e = .returned (.int .i64 k.i.im) ∧ w' = W) := fun W hr => lT hr hi
 have HC : Hid (∀ W, Calls prog 14 #[.agg (cpc k.k), .int .u64 (n64 (mM S)), .int .u64 (n64 (tM S)), .int .i64 k.i.im] W fun e w' => e = .returned (.tuple #[.int .u64 (n64 (rV S k.k k.i.im)), .bool (RK k.k k.i.im)]) ∧ Below W.heap.size W w') := fun W => by rw [yE]; exact xF k.k (mM S) (tM S) k.i.im hi W
 rw [hk] at HC
 generalize rV S k.k k.i.im = v at HC ⊢
 clear hk hi cb
 go_enter func101, ntmps101
 go_upto_region 1 with fail
 refine bN (x0 := bB.start w) (by kernel_rfl) (by kernel_rfl) ?_
 repeat (first | (refine ZqN (by rfl) fun KK hK => ?_; refine bD 31 _ (by rfl) g 82 (by rfl) (cpc k.k) _ hlt HKK.out underlying31 (by rfl) (aB _) (hK _ ?_); clear hK KK; simp only [Act.put, ZqA, ZqC, ZqB]) | go_big_quiet_step (first | (go_at_call 15; exact bJ (HM.out _)) | (go_at_call 16; exact bJ (HT.out _)) | (go_at_call 135; exact bL (HN.out _ (HR.out.later (bB.below _) HR.out.lt))) | (go_at_call 14; exact bJ (HC.out _))))
 refine wpQuiet_nil ?_
 rintro w' ⟨x9, rfl⟩
 have H9 := Hid.mk' (HR.out.later x9.below HR.out.lt)
 have HX := Hid.mk' x9.below
 go_wp2_with (go_at_call 44; refine (jR _ _).mono ?_; rintro e w5 ⟨rfl, hw5⟩; have hw52 := hw5.symm; subst hw52)
 go_ret
 exact ⟨rfl, HX.out⟩
theorem mL {B g : Nat} {L : Lay} {S : St} {w : World} {k : Wk} (h : Pre B L S w g k) (hi : I64 k.i.im) (hk : RK k.k k.i.im = false) : Calls prog 101 #[.pointer (some ⟨g, 0, none⟩)] w fun e w' => Thr 2 (rB k.i.rw) w e w' := by
 have HR := Hid.mk' h.r
 have HKK := Hid.mk' h.r.kls.kk
 have hlt := h.r.lt
 have cb := h.r.kls.b
 rw [h.bb] at cb
 have := aS w
 have L1 : ∀ x : bB w, x.1.cell? ⟨g, 164, none⟩ = some (.pointer (some ⟨L.b, 0, none⟩)) := cG hlt cb
 have HM : Hid (∀ x : bB w, Calls prog 15 #[.pointer (some ⟨L.b, 0, none⟩)] x.1 fun e w' => e = .returned (.int .u64 (n64 (mM S))) ∧ Below x.1.heap.size x.1 w') := fun x => by rw [yD]; exact IX x.1 (h.p.later x.below) h.s.st.ier
 have HT : Hid (∀ x : bB w, Calls prog 16 #[.pointer (some ⟨L.b, 0, none⟩)] x.1 fun e w' => e = .returned (.int .u64 (n64 (tM S))) ∧ Below x.1.heap.size x.1 w') := fun x => by rw [yF h.s]; exact yV x.1 (h.p.later x.below)
 have HN : Hid (∀ W, Row W g (wkc k) 74 → Calls prog 135 #[.pointer (some ⟨g, 0, none⟩)] W fun e w' => e = .returned (.int .i64 k.i.im) ∧ w' = W) := fun W hr => lT hr hi
 have HC : Hid (∀ W, Calls prog 14 #[.agg (cpc k.k), .int .u64 (n64 (mM S)), .int .u64 (n64 (tM S)), .int .i64 k.i.im] W fun e w' => e = .returned (.tuple #[.int .u64 (n64 (rV S k.k k.i.im)), .bool (RK k.k k.i.im)]) ∧ Below W.heap.size W w') := fun W => by rw [yE]; exact xF k.k (mM S) (tM S) k.i.im hi W
 rw [hk] at HC
 generalize rV S k.k k.i.im = v at HC ⊢
 have HS : Hid (∀ W, Row W g (wkc k) 74 → Calls prog 44 #[.pointer (some ⟨g, 0, none⟩), .bool false] W fun e w' => Thr 2 (rB k.i.rw) W e w') := fun W h => hH h
 clear hk hi cb
 go_enter func101, ntmps101
 go_upto_region 1 with fail
 refine bN (x0 := bB.start w) (by kernel_rfl) (by kernel_rfl) ?_
 repeat (first | (refine ZqN (by rfl) fun KK hK => ?_; refine bD 31 _ (by rfl) g 82 (by rfl) (cpc k.k) _ hlt HKK.out underlying31 (by rfl) (aB _) (hK _ ?_); clear hK KK; simp only [Act.put, ZqA, ZqC, ZqB]) | go_big_quiet_step (first | (go_at_call 15; exact bJ (HM.out _)) | (go_at_call 16; exact bJ (HT.out _)) | (go_at_call 135; exact bL (HN.out _ (HR.out.later (bB.below _) HR.out.lt))) | (go_at_call 14; exact bJ (HC.out _))))
 refine wpQuiet_nil ?_
 rintro w' ⟨x9, rfl⟩
 have H9 := Hid.mk' (HR.out.later x9.below HR.out.lt)
 have HX := Hid.mk' x9.below
 go_wp2_with (go_at_call 44; refine (HS.out _ H9.out).mono ?_)
 rintro e w' hp
 obtain ⟨rfl, hb⟩ := hp
 exact ⟨rfl, rfl, HX.out.trans (hb.mono HX.out.size)⟩
def wrK (k : Wk) (v : BitVec 64) : Wk := { k with k := WR k.k k.i.im v, d := { k.d with wc := (k.i.im == 2816), wi := (k.i.im == 2818) } }
def tI (b : Bool) (k : Wk) : Tp := if b = true then tN else tS 2 (rB k.i.rw)
theorem lF {B g : Nat} {L : Lay} {S : St} {w : World} {k : Wk} (h : Pre B L S w g k) (hi : I64 k.i.im) (v : BitVec 64) : Calls prog 102 #[.pointer (some ⟨g, 0, none⟩), .int .u64 (n64 v)] w fun e w' => Ret B L w g (tI (WK k.k k.i.im) k) S (wrK k v) (.tuple #[]) e w' := by
 have HN : Hid (∀ W, Row W g (wkc k) 74 → Calls prog 135 #[.pointer (some ⟨g, 0, none⟩)] W fun e w' => e = .returned (.int .i64 k.i.im) ∧ Below W.heap.size W w') := fun W hr => (lT hr hi).mono (by rintro e w' ⟨rfl, rfl⟩; exact ⟨rfl, ZqD _ _⟩)
 have HL : Hid (∀ W, Calls prog 136 #[.agg (cpc k.k), .int .i64 k.i.im, .int .u64 (n64 v)] W fun e w' => e = .returned (.tuple #[.agg (cpc (WR k.k k.i.im v)), .bool (WK k.k k.i.im)]) ∧ Below W.heap.size W w') := fun W => NI k.k k.i.im v hi W
 unfold wrK
 generalize WR k.k k.i.im v = c at HL ⊢
 generalize WK k.k k.i.im = lg at HL ⊢
 have HP := Hid.mk' h
 have hlt := h.r.lt
 have HC : Hid (∀ w9 L9, Jw B L w S S g (wkc k) 74 L9 false w9 → Calls prog 136 #[.agg (cpc k.k), .int .i64 k.i.im, .int .u64 (n64 v)] w9 fun e w' => e = .returned (.tuple #[.agg (cpc c), .bool lg]) ∧ ∃ L', Jw B L w S S g (wkc k) 74 L' true w' ∧ Fr L9 w9 L' w') := fun w9 L9 hJ => by
  refine (HL.out w9).mono ?_
  rintro e w' ⟨rfl, hb⟩
  exact ⟨rfl, L9, hJ.call (PSt.quiet hJ.p.p hb)⟩
 clear h
 go_enter func102, ntmps102
 go_upto_region 0 with fail
 refine dH (by kernel_rfl) (fun i => ([[], [0], [1], [2], [], [4], [], [3, 5, 6], [7], [8], [8], [], [11, 9], [10]] : List (List Nat)).getD i []) (fun i => ([some (.pointer (some ⟨g, 0, none⟩)), some (.pointer (some ⟨g, 0, none⟩)), some (.pointer (some ⟨g, 82, none⟩)), some (.agg (cpc k.k)), some (.pointer (some ⟨g, 0, none⟩)), some (.int .i64 k.i.im), some (.int .u64 (n64 v)), some (.tuple #[.agg (cpc c), .bool lg]), some (.tuple #[.agg (cpc c), .bool lg]), some (.agg (cpc c)), some (.bool lg), none, none, some (.bool lg)] : List (Option Value)).getD i none) [⟨11, 12, 9, 31, cpc cz, cpc c⟩] 7 w.heap.size (Jw B L w S S g (wkc k) 74) _ w (by kernel_rfl) (by kernel_rfl) ?_ L (⟨(PSt.refl HP.out.p).post (ZqD _ _).drew, HP.out.r.later (ZqD _ _).drew HP.out.r.lt, HP.out.n⟩) rfl (by decide) ?_ (fun L b w w' h hb => h.later hb) (fun L b w q cs h hq hb => h.put hlt hq hb cs) (fun L b w q h hq => h.own hq) (hO ⟨?_, ?_, ?_, ?_, ?_, ?_, ?_, ?_, ?_, ?_, ?_, ?_, ?_, ?_, trivial⟩) ?_
 ·intro p hp q hq e; rw [List.mem_singleton.1 hp, List.mem_singleton.1 hq]
 ·intro q hq
  rw [List.mem_singleton.1 hq]
  exact ⟨(by show 11 < _; decide), (by show 12 < _; decide)⟩
 ·exact opn_old _ (.pointer (some ⟨g, 0, none⟩)) 0 rfl rfl (by simp) rfl (by decide) (by kernel_rfl) rfl (fun ρ w9 L9 b9 q hJ => by simp [execOp, q, go_sem])
 ·exact opn_new _ _ 7 0 rfl rfl (by simp) rfl (by decide) (by decide) rfl (fun _ => rfl) (fun ρ w9 L9 b9 q hJ => by simp [execOp, q, go_sem])
 ·exact opn_new _ _ 8 1 rfl rfl (by simp) rfl (by decide) (by decide) rfl (fun _ => rfl) (fun ρ w9 L9 b9 q hJ => by simp [execOp, q, go_sem])
 ·exact opn_new _ _ 9 2 rfl rfl (by simp) rfl (by decide) (by decide) rfl (fun _ => rfl) (fun ρ w9 L9 b9 q hJ => by have hl := iU (P := prog) 31 g 82 (cpc k.k) _ w9 hJ.r.kls.kk underlying31 (by rfl) (aB _); simp only [execOp, q]; exact hl)
 ·exact opn_old _ (.pointer (some ⟨g, 0, none⟩)) 0 rfl rfl (by simp) rfl (by decide) (by kernel_rfl) rfl (fun ρ w9 L9 b9 q hJ => by simp [execOp, q, go_sem])
 ·refine gH (.int .i64 k.i.im) 135 #[.pointer (some ⟨g, 0, none⟩)] rfl rfl (by simp) rfl (by decide) (fun a w9 L9 b9 ho hn hJ => ?_) (fun w9 L9 b9 hJ => ?_)
  ·
   have q0 : a.eval (.tmp 11) = .pointer (some ⟨g, 0, none⟩) := hn 4 (by decide) _ rfl
   have hf : a.eval (.func 135) = .func (.func 135) #[] #[] := rfl
   clear ho hn
   generalize a.eval = ρ at *
   simp [execOp, q0, hf, go_sem]
  ·exact HN.out w9 hJ.r
 ·exact opn_old _ (.int .u64 (n64 v)) 1 rfl rfl (by simp) rfl (by decide) (by kernel_rfl) rfl (fun ρ w9 L9 b9 q hJ => by simp [execOp, q, go_sem])
 ·refine iA (.tuple #[.agg (cpc c), .bool lg]) 136 #[.agg (cpc k.k), .int .i64 k.i.im, .int .u64 (n64 v)] rfl rfl (by simp) rfl rfl (fun a w9 L9 ho hn hJ => ?_) (fun w9 L9 hJ => ?_)
  ·
   have q0 : a.eval (.tmp 10) = .agg (cpc k.k) := hn 3 (by decide) _ rfl
   have q1 : a.eval (.tmp 12) = .int .i64 k.i.im := hn 5 (by decide) _ rfl
   have q2 : a.eval (.tmp 13) = .int .u64 (n64 v) := hn 6 (by decide) _ rfl
   have hf : a.eval (.func 136) = .func (.func 136) #[] #[] := rfl
   clear ho hn
   generalize a.eval = ρ at *
   simp [execOp, q0, q1, q2, hf, go_sem]
  ·
   exact HC.out w9 L9 hJ
 ·exact opn_new _ _ 14 7 rfl rfl (by simp) rfl (by decide) (by decide) rfl (fun _ => rfl) (fun ρ w9 L9 b9 q hJ => by simp [execOp, q, go_sem])
 ·exact opn_new _ _ 6 8 rfl rfl (by simp) rfl (by decide) (by decide) rfl (fun _ => rfl) (fun ρ w9 L9 b9 q hJ => by simp [execOp, q, go_sem])
 ·exact opn_new _ _ 6 8 rfl rfl (by simp) rfl (by decide) (by decide) rfl (fun _ => rfl) (fun ρ w9 L9 b9 q hJ => by simp [execOp, q, go_sem])
 ·refine eM ⟨11, 12, 9, 31, cpc cz, cpc c⟩ rfl rfl (by simp) (by simp) rfl (fun a w9 => ?_)
  have hz := cC w9
  generalize a.eval = ρ
  simp [execOp, go_sem, hz, ptr]
 ·exact dE ⟨11, 12, 9, 31, cpc cz, cpc c⟩ (.tmp 4) (.tmp 15) rfl rfl rfl (by simp) rfl rfl ⟨(by show (11 : Nat) ∈ [11, 9]; decide), (by show (9 : Nat) ∈ [11, 9]; decide)⟩ rfl (fun a => rfl) (fun a => rfl) (aB _) (by rw [aE, aE]) (aO _)
 ·exact opn_new _ _ 16 10 rfl rfl (by simp) rfl (by decide) (by decide) rfl (fun _ => rfl) (fun ρ w9 L9 b9 q hJ => by simp [execOp, q, go_sem])
 ·intro W9 L9 pg hJ hrow hdis
  have hr1 := (hrow _ (List.mem_singleton.2 rfl)).1
  simp only [dW, Act.put, List.getD_cons_zero, List.getD_cons_succ, Option.getD_some, Option.getD_none, ZqA, ZqB, ZqC]
  simp only [Nat.reduceAdd, ptr]
  simp only at hr1
  generalize pg 11 = gc at hr1 ⊢
  have HG : Hid (Row W9 gc (cpc c) 31) := hr1
  have HJ : Hid (Jw B L w S S g (wkc k) 74 L9 true W9) := hJ
  clear hrow hdis hJ hr1 HC HL
  have HB1 : Hid (Bst B L w g L9 S W9) := Bst.of_pst HJ.out.p
  have HK9 : Hid (Mk g W9 W9 k) := ⟨Exc.refl _ _, HJ.out.r⟩
  cases lg with
  | false =>
   go_wp2_with (go_at_call 44; refine (hH HJ.out.r).mono ?_)
   rintro e w' hp
   obtain ⟨rfl, hb⟩ := hp
   exact ⟨rfl, L9, HB1.out.trans HP.out.r.lt (Bst.later HB1.out.p hb), HJ.out.n, .inl ⟨rfl, rfl⟩⟩
  | true =>
   go_upto_region 3 with (first | (go_at_call 44; refine (jR _ _).mono ?_; rintro e w5 ⟨rfl, hw5⟩; have hw52 := hw5.symm; subst hw52) | (refine wpList_load_row (by rfl) _ _ (by rfl) _ (by rfl) 31 _ (0, 0) _ HG.out underlying31 (by rfl) (aB _) ?_) | (refine aX (by rfl) 31 _ _ (by rfl) (by rfl) g 82 (cpc c) (by rfl) (by rfl) (mF HK9.out.r c) (aB _) (aO _) ?_))
   refine kB (motive := fun W => Code.wp _ _ _ _ W) (Q := fun W => Mk g W9 W { k with k := c }) (HK9.out.row c) ?_
   clear HK9 HG
   rintro W6 m6
   have c6 : W6.cell? ⟨g, 185, none⟩ = some (.bool k.d.wc) := m6.r.kls.dn 9 _ rfl
   have c7 : W6.cell? ⟨g, 186, none⟩ = some (.bool k.d.wi) := m6.r.kls.dn 10 _ rfl
   have f6 := m6.r.froz 185
   have f7 := m6.r.froz 186
   have HK6 := hid m6
   have HK7 := Hid.mk' (HK6.out.set (SX _ (k.i.im == 2816)))
   have HN6 : Hid (∀ W (K : Wk), K.i.im = k.i.im → Row W g (wkc K) 74 → Calls prog 135 #[.pointer (some ⟨g, 0, none⟩)] W fun e w' => e = .returned (.int .i64 k.i.im) ∧ w' = W) := fun W K e hr => by have q := lT (k := K) hr (by rw [e]; exact hi); rw [e] at q; exact q
   clear m6 hi
   go_wp2_with (go_at_call 135; first | (refine (HN6.out _ _ ?_ HK6.out.r).mono ?_; rfl; clear HK6; rintro e w7 ⟨rfl, hw7⟩; have hw72 := hw7.symm; subst hw72) | (refine (HN6.out _ _ ?_ HK7.out.r).mono ?_; rfl; rintro e w7 ⟨rfl, hw7⟩; have hw72 := hw7.symm; subst hw72))
   first | go_end0 | refine ZqH (results_none rfl _ _ _) rfl ?_
   exact ⟨L9, HB1.out.trans HP.out.r.lt (Bst.of_mk HB1.out.p HJ.out.n (HK7.out.set (BT _ (k.i.im == 2818))).x), HJ.out.n, .inr ⟨rfl, rfl, (HK7.out.set (BT _ (k.i.im == 2818))).r⟩⟩
def opV (k : Wk) (n : Nat) : BitVec 64 := if 59 ≤ k.i.op then iB n else k.p.x n
theorem mK {g n : Nat} {k : Wk} {w : World} (hr : Row w g (wkc k) 74) (h2 : k.i.r1 = (n : Int)) (hn : n < 32) : Calls prog 103 #[.pointer (some ⟨g, 0, none⟩)] w fun e w' => e = .returned (.int .u64 (n64 (opV k n))) ∧ Below w.heap.size w w' := by
 unfold opV
 by_cases h : 59 ≤ k.i.op
 ·rw [if_pos h]; exact zB hr h h2 hn
 ·rw [if_neg h]; exact zC hr h h2 hn
theorem KE (k : Wk) (v : BitVec 64) : (ptK k v).b = k.b := by unfold ptK; split <;> rfl
theorem KG (k : Wk) (v : BitVec 64) : (ptK k v).i = k.i := by unfold ptK; split <;> rfl
theorem SK {B g n : Nat} {L : Lay} {S : St} {w : World} {k : Wk} (h : Pre B L S w g k) (h1 : k.i.r1 = (n : Int)) (hn : n < 32) (hrd : 0 ≤ k.i.rd ∧ k.i.rd < 32) (hi : I64 k.i.im) (hk : RK k.k k.i.im = true) :
  Calls prog 73 #[.pointer (some ⟨g, 0, none⟩)] w fun e w' => Ret B L w g (tI (WK k.k k.i.im) k) S (ptK (wrK k (opV k n)) (rV S k.k k.i.im)) (.tuple #[]) e w' := by
 have HP := Hid.mk' h
 have hlt := h.r.lt
 have HRD := Hid.mk' (iF h hi hk)
 have HOP : Hid (∀ W, Row W g (wkc k) 74 → Calls prog 103 #[.pointer (some ⟨g, 0, none⟩)] W fun e w' => e = .returned (.int .u64 (n64 (opV k n))) ∧ Below W.heap.size W w') := fun W hr => mK hr h1 hn
 have HWR : Hid (∀ W, Pre B L S W g k → Calls prog 102 #[.pointer (some ⟨g, 0, none⟩), .int .u64 (n64 (opV k n))] W fun e w' => Ret B L W g (tI (WK k.k k.i.im) k) S (wrK k (opV k n)) (.tuple #[]) e w') := fun W hp => lF hp hi _
 have HPT : Hid (∀ W, Row W g (wkc (wrK k (opV k n))) 74 → Calls prog 87 #[.pointer (some ⟨g, 0, none⟩), .int .u64 (n64 (rV S k.k k.i.im))] W fun e w' => e = .returned (.tuple #[]) ∧ Mk g W w' (ptK (wrK k (opV k n)) (rV S k.k k.i.im))) := fun W hr => fJ hr _ hrd
 generalize rV S k.k k.i.im = v at HRD HWR HPT ⊢
 generalize opV k n = z at HOP HWR HPT ⊢
 clear h hk
 cases ht : WK k.k k.i.im with
 | false =>
  rw [ht] at HWR
  go_enter func73, ntmps73
  go_wp2_with (first | (go_at_call 101; refine HRD.out.mono ?_; rintro e w1 ⟨rfl, hb⟩; have HB := Hid.mk' hb; have HP1 := Hid.mk' (HP.out.later hb); clear hb) | (go_at_call 103; refine (HOP.out _ HP1.out.r).mono ?_; rintro e w2 ⟨rfl, hb⟩; have HP2 := Hid.mk' (HP1.out.later hb); have HB2 := Hid.mk' (HB.out.trans (hb.mono HB.out.size)); clear hb) | (go_at_call 102; refine (HWR.out _ HP2.out).mono ?_))
  rintro e w' hp
  obtain ⟨rfl, L', hb, hn'⟩ := hp.no rfl
  exact ⟨rfl, L', (Bst.later HP.out.p HB2.out).trans hlt hb, hn', .inl ⟨rfl, rfl⟩⟩
 | true =>
  rw [ht] at HWR
  go_enter func73, ntmps73
  go_wp2_with (first | (go_at_call 101; refine HRD.out.mono ?_; rintro e w1 ⟨rfl, hb⟩; have HB := Hid.mk' hb; have HP1 := Hid.mk' (HP.out.later hb); clear hb) | (go_at_call 103; refine (HOP.out _ HP1.out.r).mono ?_; rintro e w2 ⟨rfl, hb⟩; have HP2 := Hid.mk' (HP1.out.later hb); have HB2 := Hid.mk' (HB.out.trans (hb.mono HB.out.size)); clear hb) | (go_at_call 102; refine (HWR.out _ HP2.out).mono ?_; intro e w3 hp; obtain ⟨rfl, L3, hb3, hn3, hr3⟩ := hp.yes rfl; have HB3 := Hid.mk' ((Bst.later (g := g) HP.out.p HB2.out).trans hlt hb3); have HN3 := Hid.mk' hn3; have HR3 := Hid.mk' hr3; clear hp hb3 hn3 hr3) | (go_at_call 87; refine (HPT.out _ HR3.out).mono ?_; rintro e w4 ⟨rfl, hm4⟩; have HM4 := Hid.mk' hm4; clear hm4))
  first | go_end0 | refine ZqH (results_none rfl _ _ _) rfl ?_
  exact ⟨L3, HB3.out.trans hlt (Bst.of_mk HB3.out.p HN3.out HM4.out.x), HN3.out, .inr ⟨rfl, rfl, HM4.out.r⟩⟩
theorem MG {B g : Nat} {L : Lay} {S : St} {w : World} {k : Wk} (h : Pre B L S w g k) (hi : I64 k.i.im) (hk : RK k.k k.i.im = false) (K : Wk) :
  Calls prog 73 #[.pointer (some ⟨g, 0, none⟩)] w fun e w' => Ret B L w g (tS 2 (rB k.i.rw)) S K (.tuple #[]) e w' := by
 have HP := Hid.mk' h
 have HRD := Hid.mk' (mL h hi hk)
 clear h hk
 go_enter func73, ntmps73
 go_wp2_with (go_at_call 101; refine HRD.out.mono ?_)
 rintro e w' hp
 obtain ⟨rfl, hb⟩ := hp
 exact ⟨rfl, L, Bst.later HP.out.p hb, HP.out.n, .inl ⟨rfl, rfl⟩⟩
theorem SJ {B g n : Nat} {L : Lay} {S : St} {w : World} {k : Wk} (h : Pre B L S w g k) (h1 : k.i.r1 = (n : Int)) (hn : n < 32) (hr0 : n ≠ 0) (hrd : 0 ≤ k.i.rd ∧ k.i.rd < 32) (hi : I64 k.i.im) (hk : RK k.k k.i.im = true) :
  Calls prog 74 #[.pointer (some ⟨g, 0, none⟩)] w fun e w' => Ret B L w g (tI (WK k.k k.i.im) k) S (ptK (wrK k (rV S k.k k.i.im ||| opV k n)) (rV S k.k k.i.im)) (.tuple #[]) e w' := by
 have HP := Hid.mk' h
 have hlt := h.r.lt
 have HRD := Hid.mk' (iF h hi hk)
 have HOP : Hid (∀ W, Row W g (wkc k) 74 → Calls prog 103 #[.pointer (some ⟨g, 0, none⟩)] W fun e w' => e = .returned (.int .u64 (n64 (opV k n))) ∧ Below W.heap.size W w') := fun W hr => mK hr h1 hn
 have HWR : Hid (∀ W, Pre B L S W g k → Calls prog 102 #[.pointer (some ⟨g, 0, none⟩), .int .u64 (n64 (rV S k.k k.i.im ||| opV k n))] W fun e w' => Ret B L W g (tI (WK k.k k.i.im) k) S (wrK k (rV S k.k k.i.im ||| opV k n)) (.tuple #[]) e w') := fun W hp => lF hp hi _
 have HPT : Hid (∀ W, Row W g (wkc (wrK k (rV S k.k k.i.im ||| opV k n))) 74 → Calls prog 87 #[.pointer (some ⟨g, 0, none⟩), .int .u64 (n64 (rV S k.k k.i.im))] W fun e w' => e = .returned (.tuple #[]) ∧ Mk g W w' (ptK (wrK k (rV S k.k k.i.im ||| opV k n)) (rV S k.k k.i.im))) := fun W hr => fJ hr _ hrd
 have HC1 : Hid (∀ W, Row W g (wkc k) 74 → W.cell? ⟨g, 167, none⟩ = some (.int .i64 (n : Int))) := fun W hr => by rw [← h1]; exact hr.kls.r1
 have hnz : ¬ (n : Int) = 0 := by omega
 have e1 : bits .or .u64 (n64 (rV S k.k k.i.im)) (n64 (opV k n)) = n64 (rV S k.k k.i.im ||| opV k n) := hU _ _
 generalize rV S k.k k.i.im ||| opV k n = z at HWR HPT e1 ⊢
 generalize rV S k.k k.i.im = v at HRD HPT e1 ⊢
 generalize opV k n = z0 at HOP e1
 clear h hk
 cases ht : WK k.k k.i.im with
 | false =>
  rw [ht] at HWR
  go_enter func74, ntmps74
  go_wp2_with (first | (go_at_call 101; refine HRD.out.mono ?_; rintro e w1 ⟨rfl, hb⟩; have HB := Hid.mk' hb; have HP1 := Hid.mk' (HP.out.later hb); clear hb; have c1 := HC1.out _ HP1.out.r) | (go_at_call 103; refine (HOP.out _ HP1.out.r).mono ?_; rintro e w2 ⟨rfl, hb⟩; have HP2 := Hid.mk' (HP1.out.later hb); have HB2 := Hid.mk' (HB.out.trans (hb.mono HB.out.size)); clear hb) | (go_at_call 102; refine (HWR.out _ HP2.out).mono ?_))
  rintro e w' hp
  obtain ⟨rfl, L', hb, hn'⟩ := hp.no rfl
  exact ⟨rfl, L', (Bst.later HP.out.p HB2.out).trans hlt hb, hn', .inl ⟨rfl, rfl⟩⟩
 | true =>
  rw [ht] at HWR
  go_enter func74, ntmps74
  go_wp2_with (first | (go_at_call 101; refine HRD.out.mono ?_; rintro e w1 ⟨rfl, hb⟩; have HB := Hid.mk' hb; have HP1 := Hid.mk' (HP.out.later hb); clear hb; have c1 := HC1.out _ HP1.out.r) | (go_at_call 103; refine (HOP.out _ HP1.out.r).mono ?_; rintro e w2 ⟨rfl, hb⟩; have HP2 := Hid.mk' (HP1.out.later hb); have HB2 := Hid.mk' (HB.out.trans (hb.mono HB.out.size)); clear hb) | (go_at_call 102; refine (HWR.out _ HP2.out).mono ?_; intro e w3 hp; obtain ⟨rfl, L3, hb3, hn3, hr3⟩ := hp.yes rfl; have HB3 := Hid.mk' ((Bst.later (g := g) HP.out.p HB2.out).trans hlt hb3); have HN3 := Hid.mk' hn3; have HR3 := Hid.mk' hr3; clear hp hb3 hn3 hr3) | (go_at_call 87; refine (HPT.out _ HR3.out).mono ?_; rintro e w4 ⟨rfl, hm4⟩; have HM4 := Hid.mk' hm4; clear hm4))
  first | go_end0 | refine ZqH (results_none rfl _ _ _) rfl ?_
  exact ⟨L3, HB3.out.trans hlt (Bst.of_mk HB3.out.p HN3.out HM4.out.x), HN3.out, .inr ⟨rfl, rfl, HM4.out.r⟩⟩
theorem MF {B g : Nat} {L : Lay} {S : St} {w : World} {k : Wk} (h : Pre B L S w g k) (h1 : k.i.r1 = 0) (hrd : 0 ≤ k.i.rd ∧ k.i.rd < 32) (hi : I64 k.i.im) (hk : RK k.k k.i.im = true) :
  Calls prog 74 #[.pointer (some ⟨g, 0, none⟩)] w fun e w' => Ret B L w g tN S (ptK k (rV S k.k k.i.im)) (.tuple #[]) e w' := by
 have HP := Hid.mk' h
 have hlt := h.r.lt
 have HRD := Hid.mk' (iF h hi hk)
 have HPT : Hid (∀ W, Row W g (wkc k) 74 → Calls prog 87 #[.pointer (some ⟨g, 0, none⟩), .int .u64 (n64 (rV S k.k k.i.im))] W fun e w' => e = .returned (.tuple #[]) ∧ Mk g W w' (ptK k (rV S k.k k.i.im))) := fun W hr => fJ hr _ hrd
 generalize rV S k.k k.i.im = v at HRD HPT ⊢
 clear h hk
 go_enter func74, ntmps74
 go_upto_region 1 with (go_at_call 101; refine HRD.out.mono ?_; rintro e w1 ⟨rfl, hb⟩; have HB := Hid.mk' hb; have HP1 := Hid.mk' (HP.out.later hb); clear hb)
 have c1 := HP1.out.r.kls.r1
 rw [h1] at c1
 clear h1
 go_wp2_with (go_at_call 87; refine (HPT.out _ HP1.out.r).mono ?_; rintro e w4 ⟨rfl, hm4⟩; have HM4 := Hid.mk' hm4; clear hm4)
 first | go_end0 | refine ZqH (results_none rfl _ _ _) rfl ?_
 exact ⟨L, (Bst.later HP.out.p HB.out).trans hlt (Bst.of_mk HP1.out.p HP1.out.n HM4.out.x), HP1.out.n, .inr ⟨rfl, rfl, HM4.out.r⟩⟩
theorem ME {B g : Nat} {L : Lay} {S : St} {w : World} {k : Wk} (h : Pre B L S w g k) (hi : I64 k.i.im) (hk : RK k.k k.i.im = false) (K : Wk) :
  Calls prog 74 #[.pointer (some ⟨g, 0, none⟩)] w fun e w' => Ret B L w g (tS 2 (rB k.i.rw)) S K (.tuple #[]) e w' := by
 have HP := Hid.mk' h
 have HRD := Hid.mk' (mL h hi hk)
 clear h hk
 go_enter func74, ntmps74
 go_wp2_with (go_at_call 101; refine HRD.out.mono ?_)
 rintro e w' hp
 obtain ⟨rfl, hb⟩ := hp
 exact ⟨rfl, L, Bst.later HP.out.p hb, HP.out.n, .inl ⟨rfl, rfl⟩⟩
theorem SI {B g n : Nat} {L : Lay} {S : St} {w : World} {k : Wk} (h : Pre B L S w g k) (h1 : k.i.r1 = (n : Int)) (hn : n < 32) (hr0 : n ≠ 0) (hrd : 0 ≤ k.i.rd ∧ k.i.rd < 32) (hi : I64 k.i.im) (hk : RK k.k k.i.im = true) :
  Calls prog 75 #[.pointer (some ⟨g, 0, none⟩)] w fun e w' => Ret B L w g (tI (WK k.k k.i.im) k) S (ptK (wrK k (rV S k.k k.i.im &&& ~~~(opV k n))) (rV S k.k k.i.im)) (.tuple #[]) e w' := by
 have HP := Hid.mk' h
 have hlt := h.r.lt
 have HRD := Hid.mk' (iF h hi hk)
 have HOP : Hid (∀ W, Row W g (wkc k) 74 → Calls prog 103 #[.pointer (some ⟨g, 0, none⟩)] W fun e w' => e = .returned (.int .u64 (n64 (opV k n))) ∧ Below W.heap.size W w') := fun W hr => mK hr h1 hn
 have HWR : Hid (∀ W, Pre B L S W g k → Calls prog 102 #[.pointer (some ⟨g, 0, none⟩), .int .u64 (n64 (rV S k.k k.i.im &&& ~~~(opV k n)))] W fun e w' => Ret B L W g (tI (WK k.k k.i.im) k) S (wrK k (rV S k.k k.i.im &&& ~~~(opV k n))) (.tuple #[]) e w') := fun W hp => lF hp hi _
 have HPT : Hid (∀ W, Row W g (wkc (wrK k (rV S k.k k.i.im &&& ~~~(opV k n)))) 74 → Calls prog 87 #[.pointer (some ⟨g, 0, none⟩), .int .u64 (n64 (rV S k.k k.i.im))] W fun e w' => e = .returned (.tuple #[]) ∧ Mk g W w' (ptK (wrK k (rV S k.k k.i.im &&& ~~~(opV k n))) (rV S k.k k.i.im))) := fun W hr => fJ hr _ hrd
 have HC1 : Hid (∀ W, Row W g (wkc k) 74 → W.cell? ⟨g, 167, none⟩ = some (.int .i64 (n : Int))) := fun W hr => by rw [← h1]; exact hr.kls.r1
 have hnz : ¬ (n : Int) = 0 := by omega
 have e1 := eR (rV S k.k k.i.im) (opV k n)
 generalize rV S k.k k.i.im &&& ~~~(opV k n) = z at HWR HPT e1 ⊢
 generalize rV S k.k k.i.im = v at HRD HPT e1 ⊢
 generalize opV k n = z0 at HOP e1
 clear h hk
 cases ht : WK k.k k.i.im with
 | false =>
  rw [ht] at HWR
  go_enter func75, ntmps75
  go_wp2_with (first | (go_at_call 101; refine HRD.out.mono ?_; rintro e w1 ⟨rfl, hb⟩; have HB := Hid.mk' hb; have HP1 := Hid.mk' (HP.out.later hb); clear hb; have c1 := HC1.out _ HP1.out.r) | (go_at_call 103; refine (HOP.out _ HP1.out.r).mono ?_; rintro e w2 ⟨rfl, hb⟩; have HP2 := Hid.mk' (HP1.out.later hb); have HB2 := Hid.mk' (HB.out.trans (hb.mono HB.out.size)); clear hb) | (go_at_call 102; refine (HWR.out _ HP2.out).mono ?_))
  rintro e w' hp
  obtain ⟨rfl, L', hb, hn'⟩ := hp.no rfl
  exact ⟨rfl, L', (Bst.later HP.out.p HB2.out).trans hlt hb, hn', .inl ⟨rfl, rfl⟩⟩
 | true =>
  rw [ht] at HWR
  go_enter func75, ntmps75
  go_wp2_with (first | (go_at_call 101; refine HRD.out.mono ?_; rintro e w1 ⟨rfl, hb⟩; have HB := Hid.mk' hb; have HP1 := Hid.mk' (HP.out.later hb); clear hb; have c1 := HC1.out _ HP1.out.r) | (go_at_call 103; refine (HOP.out _ HP1.out.r).mono ?_; rintro e w2 ⟨rfl, hb⟩; have HP2 := Hid.mk' (HP1.out.later hb); have HB2 := Hid.mk' (HB.out.trans (hb.mono HB.out.size)); clear hb) | (go_at_call 102; refine (HWR.out _ HP2.out).mono ?_; intro e w3 hp; obtain ⟨rfl, L3, hb3, hn3, hr3⟩ := hp.yes rfl; have HB3 := Hid.mk' ((Bst.later (g := g) HP.out.p HB2.out).trans hlt hb3); have HN3 := Hid.mk' hn3; have HR3 := Hid.mk' hr3; clear hp hb3 hn3 hr3) | (go_at_call 87; refine (HPT.out _ HR3.out).mono ?_; rintro e w4 ⟨rfl, hm4⟩; have HM4 := Hid.mk' hm4; clear hm4))
  first | go_end0 | refine ZqH (results_none rfl _ _ _) rfl ?_
  exact ⟨L3, HB3.out.trans hlt (Bst.of_mk HB3.out.p HN3.out HM4.out.x), HN3.out, .inr ⟨rfl, rfl, HM4.out.r⟩⟩
theorem MD {B g : Nat} {L : Lay} {S : St} {w : World} {k : Wk} (h : Pre B L S w g k) (h1 : k.i.r1 = 0) (hrd : 0 ≤ k.i.rd ∧ k.i.rd < 32) (hi : I64 k.i.im) (hk : RK k.k k.i.im = true) :
  Calls prog 75 #[.pointer (some ⟨g, 0, none⟩)] w fun e w' => Ret B L w g tN S (ptK k (rV S k.k k.i.im)) (.tuple #[]) e w' := by
 have HP := Hid.mk' h
 have hlt := h.r.lt
 have HRD := Hid.mk' (iF h hi hk)
 have HPT : Hid (∀ W, Row W g (wkc k) 74 → Calls prog 87 #[.pointer (some ⟨g, 0, none⟩), .int .u64 (n64 (rV S k.k k.i.im))] W fun e w' => e = .returned (.tuple #[]) ∧ Mk g W w' (ptK k (rV S k.k k.i.im))) := fun W hr => fJ hr _ hrd
 generalize rV S k.k k.i.im = v at HRD HPT ⊢
 clear h hk
 go_enter func75, ntmps75
 go_upto_region 1 with (go_at_call 101; refine HRD.out.mono ?_; rintro e w1 ⟨rfl, hb⟩; have HB := Hid.mk' hb; have HP1 := Hid.mk' (HP.out.later hb); clear hb)
 have c1 := HP1.out.r.kls.r1
 rw [h1] at c1
 clear h1
 go_wp2_with (go_at_call 87; refine (HPT.out _ HP1.out.r).mono ?_; rintro e w4 ⟨rfl, hm4⟩; have HM4 := Hid.mk' hm4; clear hm4)
 first | go_end0 | refine ZqH (results_none rfl _ _ _) rfl ?_
 exact ⟨L, (Bst.later HP.out.p HB.out).trans hlt (Bst.of_mk HP1.out.p HP1.out.n HM4.out.x), HP1.out.n, .inr ⟨rfl, rfl, HM4.out.r⟩⟩
theorem MC {B g : Nat} {L : Lay} {S : St} {w : World} {k : Wk} (h : Pre B L S w g k) (hi : I64 k.i.im) (hk : RK k.k k.i.im = false) (K : Wk) :
  Calls prog 75 #[.pointer (some ⟨g, 0, none⟩)] w fun e w' => Ret B L w g (tS 2 (rB k.i.rw)) S K (.tuple #[]) e w' := by
 have HP := Hid.mk' h
 have HRD := Hid.mk' (mL h hi hk)
 clear h hk
 go_enter func75, ntmps75
 go_wp2_with (go_at_call 101; refine HRD.out.mono ?_)
 rintro e w' hp
 obtain ⟨rfl, hb⟩ := hp
 exact ⟨rfl, L, Bst.later HP.out.p hb, HP.out.n, .inl ⟨rfl, rfl⟩⟩
structure Re where
 t : Tp
 S : St
 k : Wk
def Wk.n (k : Wk) : Nat := k.i.r1.toNat
def Wk.m (k : Wk) : Nat := k.i.r2.toNat
def Wk.s (k : Wk) : Nat := k.sz.toNat
def tlK (k : Wk) (c : Cp) (me : Int) (ad da : BitVec 64) : Wk := { k with k := c, d := { k.d with me := me, ad := ad, sz := (k.s : Int), da := loV da k.s } }
def adI (k : Wk) : BitVec 64 := k.p.x k.n + iB k.i.im
def mLd (S : St) (k : Wk) := PL S (wL 0 (PR k.k) (adI k)) k.s none
def mSt (S : St) (k : Wk) := PL S (wS 0 (PR k.k) (adI k)) k.s (some fun _ => k.p.x k.m)
def mLr (S : St) (k : Wk) := AT S (wL 0 (PR k.k) (k.p.x k.n)) k.s none
def mSc (S : St) (k : Wk) := AT S (wS 0 (PR k.k) (k.p.x k.n)) k.s (if hel (PR k.k) (k.p.x k.n) k.s = true then some (fun _ => k.p.x k.m) else none)
def mAm (S : St) (k : Wk) := AM S (PR k.k) 0 k.i.op (k.p.x k.n) (k.p.x k.m)
def scB (S : St) (k : Wk) : Bool := !(mSc S k).t.is && hel (PR k.k) (k.p.x k.n) k.s
def scC (S : St) (k : Wk) : Cp := if (mSc S k).t.is = true then PR k.k else nores (PR k.k)
def csB (k : Wk) (S : St) (z : BitVec 64) : Re := ⟨tI (WK k.k k.i.im) k, S, ptK (wrK k z) (rV S k.k k.i.im)⟩
def aU (V : ZqZ) (S : St) (k : Wk) : Nat → Re
 | 0 => ⟨tN, S, ptK k (iB k.i.im)⟩
 | 1 => ⟨tN, S, ptK k (k.p.pc + iB k.i.im)⟩
 | 2 => ⟨tN, S, { ptK k k.nx with nx := k.p.pc + iB k.i.im }⟩
 | 3 => ⟨tN, S, { ptK k k.nx with nx := adI k }⟩
 | 4 => ⟨tN, S, if tkB k.i.op (k.p.x k.n) (k.p.x k.m) = true then { k with nx := k.p.pc + iB k.i.im } else k⟩
 | 5 => ⟨(mLd S k).t, (mLd S k).S, ptK (tlK k k.k 1 (adI k) 0#64) (exV (mLd S k).old k.s)⟩
 | 6 => ⟨(mLd S k).t, (mLd S k).S, ptK (tlK k k.k 1 (adI k) 0#64) (mLd S k).old⟩
 | 7 => ⟨(mSt S k).t, (mSt S k).S, tlK k (stK (PR k.k) (mSt S k) (adI k) k.s) 2 (adI k) (k.p.x k.m)⟩
 | 8 => ⟨tN, S, ptK k (V k.i.op (k.p.x k.n) (iB k.i.im))⟩
 | 9 => ⟨tN, S, ptK k (V k.i.op (k.p.x k.n) (k.p.x k.m))⟩
 | 10 => ⟨tN, S, k⟩
 | 11 => ⟨tS (if k.p.md = 0 then 8 else 11) 0#64, S, k⟩
 | 12 => ⟨tS 3 k.p.pc, S, k⟩
 | 13 => ⟨tI (RTk k.k) k, S, { k with k := RTc k.k, nx := (RTc k.k).pc }⟩
 | 14 => ⟨tI (WTk k.k) k, S, { k with k := WTc k.k }⟩
 | 15 => if RK k.k k.i.im = true then csB k S (opV k k.n) else ⟨tS 2 (rB k.i.rw), S, k⟩
 | 16 => if RK k.k k.i.im = true then (if k.i.r1 = 0 then ⟨tN, S, ptK k (rV S k.k k.i.im)⟩ else csB k S (rV S k.k k.i.im ||| opV k k.n)) else ⟨tS 2 (rB k.i.rw), S, k⟩
 | 17 => if RK k.k k.i.im = true then (if k.i.r1 = 0 then ⟨tN, S, ptK k (rV S k.k k.i.im)⟩ else csB k S (rV S k.k k.i.im &&& ~~~(opV k k.n))) else ⟨tS 2 (rB k.i.rw), S, k⟩
 | 18 => ⟨(mLr S k).t, (mLr S k).S, ptK (tlK k (rsK (PR k.k) (mLr S k) (k.p.x k.n) k.s) 1 (k.p.x k.n) 0#64) (exV (mLr S k).old k.s)⟩
 | 19 => ⟨(mSc S k).t, (mSc S k).S, if scB S k = true then ptK (tlK k (scC S k) 2 (k.p.x k.n) (k.p.x k.m)) 0#64 else ptK { k with k := scC S k } 1#64⟩
 | _ => ⟨(mAm S k).t, (mAm S k).S, ptK (tlK k (stK (PR k.k) (mAm S k) (k.p.x k.n) (dP k.i.op)) 3 (k.p.x k.n) (mAm S k).st) (exV (mAm S k).old k.s)⟩
section
variable {B g : Nat} {L : Lay} {S : St} {w w' : World} {k K : Wk} {e : Ending} {v : Value}
theorem Ret.of_mk (h : Pre B L S w g k) (hm : e = .returned v ∧ Mk g w w' K) : Ret B L w g tN S K v e w' := ⟨L, Bst.of_mk h.p h.n hm.2.x, h.n, .inr ⟨rfl, hm.1, hm.2.r⟩⟩
theorem Ret.of_thr {c : Int} {tv : BitVec 64} (h : Pre B L S w g k) (ht : Thr c tv w e w') : Ret B L w g (tS c tv) S K v e w' := ⟨L, Bst.later h.p ht.2, h.n, .inl ⟨rfl, ht.1⟩⟩
end
def grI (i : Nat) : Nat := [0, 1, 2, 3, 4, 5, 5, 5, 6, 6, 6, 6, 7, 7, 7, 7, 8, 9, 10, 11, 12, 13, 14, 15, 16, 17, 15, 16, 17, 9, 18, 19, 20, 18, 19, 20].getD i 0
structure Bod (B : Nat) (L : Lay) (S : St) (w : World) (g : Nat) (k : Wk) : Prop where
 h : Pre B L S w g k
 rd : 0 ≤ k.i.rd ∧ k.i.rd < 32
 n : k.i.r1 = (k.n : Int)
 n' : k.n < 32
 m : k.i.r2 = (k.m : Int)
 m' : k.m < 32
 im : I64 k.i.im
theorem Bod.of {B : Nat} {L : Lay} {S : St} {w : World} {g : Nat} {k : Wk} (h : Pre B L S w g k) (hf : ftB k.i = true) (hi : I64 k.i.im) : Bod B L S w g k := by
 simp only [ftB, rgB, Bool.and_eq_true, decide_eq_true_eq] at hf
 exact ⟨h, hf.1.1.1, by unfold Wk.n; omega, by unfold Wk.n; omega, by unfold Wk.m; omega, by unfold Wk.m; omega, hi⟩
theorem vb0 {B g : Nat} {L : Lay} {S : St} {w : World} {k : Wk} {V : ZqZ} (hV : CV V) (h : Bod B L S w g k) : Calls prog 58 #[.pointer (some ⟨g, 0, none⟩)] w fun e w' => Ret B L w g (aU V S k 0).t (aU V S k 0).S (aU V S k 0).k (.tuple #[]) e w' :=
 (vlui_c h.h.r h.rd).mono (fun e w' hm => Ret.of_mk h.h hm)
theorem vb1 {B g : Nat} {L : Lay} {S : St} {w : World} {k : Wk} {V : ZqZ} (hV : CV V) (h : Bod B L S w g k) : Calls prog 59 #[.pointer (some ⟨g, 0, none⟩)] w fun e w' => Ret B L w g (aU V S k 1).t (aU V S k 1).S (aU V S k 1).k (.tuple #[]) e w' :=
 (LZ h.h.r h.rd).mono (fun e w' hm => Ret.of_mk h.h hm)
theorem vb2 {B g : Nat} {L : Lay} {S : St} {w : World} {k : Wk} {V : ZqZ} (hV : CV V) (h : Bod B L S w g k) : Calls prog 60 #[.pointer (some ⟨g, 0, none⟩)] w fun e w' => Ret B L w g (aU V S k 2).t (aU V S k 2).S (aU V S k 2).k (.tuple #[]) e w' :=
 (vjal_c h.h.r h.rd).mono (fun e w' hm => Ret.of_mk h.h hm)
theorem vb3 {B g : Nat} {L : Lay} {S : St} {w : World} {k : Wk} {V : ZqZ} (hV : CV V) (h : Bod B L S w g k) : Calls prog 61 #[.pointer (some ⟨g, 0, none⟩)] w fun e w' => Ret B L w g (aU V S k 3).t (aU V S k 3).S (aU V S k 3).k (.tuple #[]) e w' :=
 (SL h.h.r h.rd h.n h.n').mono (fun e w' hm => Ret.of_mk h.h hm)
theorem vb4 {B g : Nat} {L : Lay} {S : St} {w : World} {k : Wk} {V : ZqZ} (hV : CV V) (h : Bod B L S w g k) (hop : 5 ≤ k.i.op ∧ k.i.op ≤ 10) : Calls prog 62 #[.pointer (some ⟨g, 0, none⟩)] w fun e w' => Ret B L w g (aU V S k 4).t (aU V S k 4).S (aU V S k 4).k (.tuple #[]) e w' :=
 (ED h.h.r h.n h.n' h.m h.m' hop).mono (fun e w' hm => Ret.of_mk h.h hm)
theorem vb5 {B g : Nat} {L : Lay} {S : St} {w : World} {k : Wk} {V : ZqZ} (hV : CV V) (h : Bod B L S w g k) (hsz : k.sz = (k.s : Int)) (h1 : 0 < k.s) (h8 : k.s ≤ 8) : Calls prog 63 #[.pointer (some ⟨g, 0, none⟩)] w fun e w' => Ret B L w g (aU V S k 5).t (aU V S k 5).S (aU V S k 5).k (.tuple #[]) e w' :=
 MJ h.h h.n h.n' h.rd hsz h1 h8
theorem vb6 {B g : Nat} {L : Lay} {S : St} {w : World} {k : Wk} {V : ZqZ} (hV : CV V) (h : Bod B L S w g k) (hsz : k.sz = (k.s : Int)) (h1 : 0 < k.s) (h8 : k.s ≤ 8) : Calls prog 64 #[.pointer (some ⟨g, 0, none⟩)] w fun e w' => Ret B L w g (aU V S k 6).t (aU V S k 6).S (aU V S k 6).k (.tuple #[]) e w' :=
 MI h.h h.n h.n' h.rd hsz h1 h8
theorem vb7 {B g : Nat} {L : Lay} {S : St} {w : World} {k : Wk} {V : ZqZ} (hV : CV V) (h : Bod B L S w g k) (hsz : k.sz = (k.s : Int)) (h1 : 0 < k.s) (h8 : k.s ≤ 8) : Calls prog 65 #[.pointer (some ⟨g, 0, none⟩)] w fun e w' => Ret B L w g (aU V S k 7).t (aU V S k 7).S (aU V S k 7).k (.tuple #[]) e w' :=
 ML h.h h.n h.n' h.m h.m' hsz h1 h8
theorem vb8 {B g : Nat} {L : Lay} {S : St} {w : World} {k : Wk} {V : ZqZ} (hV : CV V) (h : Bod B L S w g k) (hop : cOk k.i.op) : Calls prog 66 #[.pointer (some ⟨g, 0, none⟩)] w fun e w' => Ret B L w g (aU V S k 8).t (aU V S k 8).S (aU V S k 8).k (.tuple #[]) e w' :=
 (MA hV h.h.r h.n h.n' h.rd hop).mono (fun e w' hm => Ret.of_mk h.h hm)
theorem vb9 {B g : Nat} {L : Lay} {S : St} {w : World} {k : Wk} {V : ZqZ} (hV : CV V) (h : Bod B L S w g k) (hop : cOk k.i.op) : Calls prog 67 #[.pointer (some ⟨g, 0, none⟩)] w fun e w' => Ret B L w g (aU V S k 9).t (aU V S k 9).S (aU V S k 9).k (.tuple #[]) e w' :=
 (MB hV h.h.r h.n h.n' h.m h.m' h.rd hop).mono (fun e w' hm => Ret.of_mk h.h hm)
theorem vb10 {B g : Nat} {L : Lay} {S : St} {w : World} {k : Wk} {V : ZqZ} (hV : CV V) (h : Bod B L S w g k) : Calls prog 68 #[.pointer (some ⟨g, 0, none⟩)] w fun e w' => Ret B L w g (aU V S k 10).t (aU V S k 10).S (aU V S k 10).k (.tuple #[]) e w' :=
 (zA _ w).mono (fun e w' hm => Ret.of_mk h.h ⟨hm.1, by rw [hm.2]; exact ⟨Exc.refl _ _, h.h.r⟩⟩)
theorem vb11 {B g : Nat} {L : Lay} {S : St} {w : World} {k : Wk} {V : ZqZ} (hV : CV V) (h : Bod B L S w g k) : Calls prog 69 #[.pointer (some ⟨g, 0, none⟩)] w fun e w' => Ret B L w g (aU V S k 11).t (aU V S k 11).S (aU V S k 11).k (.tuple #[]) e w' :=
 (MH h.h.r).mono (fun e w' ht => Ret.of_thr h.h ht)
theorem vb12 {B g : Nat} {L : Lay} {S : St} {w : World} {k : Wk} {V : ZqZ} (hV : CV V) (h : Bod B L S w g k) : Calls prog 70 #[.pointer (some ⟨g, 0, none⟩)] w fun e w' => Ret B L w g (aU V S k 12).t (aU V S k 12).S (aU V S k 12).k (.tuple #[]) e w' :=
 (EE h.h.r).mono (fun e w' ht => Ret.of_thr h.h ht)
theorem vb13 {B g : Nat} {L : Lay} {S : St} {w : World} {k : Wk} {V : ZqZ} (hV : CV V) (h : Bod B L S w g k) : Calls prog 71 #[.pointer (some ⟨g, 0, none⟩)] w fun e w' => Ret B L w g (aU V S k 13).t (aU V S k 13).S (aU V S k 13).k (.tuple #[]) e w' :=
 by
 unfold aU
 cases hk : RTk k.k with
 | true => exact (SN h.h.r hk).mono (fun e w' hm => Ret.of_mk h.h hm)
 | false => exact (SM h.h.r hk).mono (fun e w' ht => Ret.of_thr h.h ht)
theorem vb14 {B g : Nat} {L : Lay} {S : St} {w : World} {k : Wk} {V : ZqZ} (hV : CV V) (h : Bod B L S w g k) : Calls prog 72 #[.pointer (some ⟨g, 0, none⟩)] w fun e w' => Ret B L w g (aU V S k 14).t (aU V S k 14).S (aU V S k 14).k (.tuple #[]) e w' :=
 by
 unfold aU
 cases hk : WTk k.k with
 | true => exact (vwfi_y h.h.r hk).mono (fun e w' hm => Ret.of_mk h.h hm)
 | false => exact (vwfi_n h.h.r hk).mono (fun e w' ht => Ret.of_thr h.h ht)
theorem vb15 {B g : Nat} {L : Lay} {S : St} {w : World} {k : Wk} {V : ZqZ} (hV : CV V) (h : Bod B L S w g k) : Calls prog 73 #[.pointer (some ⟨g, 0, none⟩)] w fun e w' => Ret B L w g (aU V S k 15).t (aU V S k 15).S (aU V S k 15).k (.tuple #[]) e w' :=
 by
 rw [show aU V S k 15 = if RK k.k k.i.im = true then csB k S (opV k k.n) else ⟨tS 2 (rB k.i.rw), S, k⟩ from rfl]
 cases hk : RK k.k k.i.im with
 | true => rw [if_pos rfl]; exact SK h.h h.n h.n' h.rd h.im hk
 | false => rw [if_neg (by simp)]; exact MG h.h h.im hk k
theorem vb16 {B g : Nat} {L : Lay} {S : St} {w : World} {k : Wk} {V : ZqZ} (hV : CV V) (h : Bod B L S w g k) : Calls prog 74 #[.pointer (some ⟨g, 0, none⟩)] w fun e w' => Ret B L w g (aU V S k 16).t (aU V S k 16).S (aU V S k 16).k (.tuple #[]) e w' :=
 by
 rw [show aU V S k 16 = if RK k.k k.i.im = true then (if k.i.r1 = 0 then ⟨tN, S, ptK k (rV S k.k k.i.im)⟩ else csB k S (rV S k.k k.i.im ||| opV k k.n)) else ⟨tS 2 (rB k.i.rw), S, k⟩ from rfl]
 cases hk : RK k.k k.i.im with
 | true =>
  rw [if_pos rfl]
  by_cases h0 : k.i.r1 = 0
  ·rw [if_pos h0]; exact MF h.h h0 h.rd h.im hk
  ·rw [if_neg h0]; exact SJ h.h h.n h.n' (by have := h.n; omega) h.rd h.im hk
 | false => rw [if_neg (by simp)]; exact ME h.h h.im hk k
theorem vb17 {B g : Nat} {L : Lay} {S : St} {w : World} {k : Wk} {V : ZqZ} (hV : CV V) (h : Bod B L S w g k) : Calls prog 75 #[.pointer (some ⟨g, 0, none⟩)] w fun e w' => Ret B L w g (aU V S k 17).t (aU V S k 17).S (aU V S k 17).k (.tuple #[]) e w' :=
 by
 rw [show aU V S k 17 = if RK k.k k.i.im = true then (if k.i.r1 = 0 then ⟨tN, S, ptK k (rV S k.k k.i.im)⟩ else csB k S (rV S k.k k.i.im &&& ~~~(opV k k.n))) else ⟨tS 2 (rB k.i.rw), S, k⟩ from rfl]
 cases hk : RK k.k k.i.im with
 | true =>
  rw [if_pos rfl]
  by_cases h0 : k.i.r1 = 0
  ·rw [if_pos h0]; exact MD h.h h0 h.rd h.im hk
  ·rw [if_neg h0]; exact SI h.h h.n h.n' (by have := h.n; omega) h.rd h.im hk
 | false => rw [if_neg (by simp)]; exact MC h.h h.im hk k
theorem vb18 {B g : Nat} {L : Lay} {S : St} {w : World} {k : Wk} {V : ZqZ} (hV : CV V) (h : Bod B L S w g k) (hsz : k.sz = (k.s : Int)) (h1 : 0 < k.s) (h8 : k.s ≤ 8) : Calls prog 76 #[.pointer (some ⟨g, 0, none⟩)] w fun e w' => Ret B L w g (aU V S k 18).t (aU V S k 18).S (aU V S k 18).k (.tuple #[]) e w' :=
 zD h.h h.n h.n' h.rd hsz h1 h8
theorem vb19 {B g : Nat} {L : Lay} {S : St} {w : World} {k : Wk} {V : ZqZ} (hV : CV V) (h : Bod B L S w g k) (hsz : k.sz = (k.s : Int)) (h1 : 0 < k.s) (h8 : k.s ≤ 8) : Calls prog 77 #[.pointer (some ⟨g, 0, none⟩)] w fun e w' => Ret B L w g (aU V S k 19).t (aU V S k 19).S (aU V S k 19).k (.tuple #[]) e w' :=
 SH h.h h.n h.n' h.m h.m' h.rd hsz h1 h8
theorem vb20 {B g : Nat} {L : Lay} {S : St} {w : World} {k : Wk} {V : ZqZ} (hV : CV V) (h : Bod B L S w g k) (hsz : k.sz = (k.s : Int)) (h1 : 0 < k.s) (h8 : k.s ≤ 8) : Calls prog 78 #[.pointer (some ⟨g, 0, none⟩)] w fun e w' => Ret B L w g (aU V S k 20).t (aU V S k 20).S (aU V S k 20).k (.tuple #[]) e w' :=
 vamo_c h.h h.n h.n' h.m h.m' h.rd hsz h1 h8
theorem SG {B g : Nat} {L : Lay} {S : St} {w : World} {k : Wk} {V : ZqZ} (hV : CV V) (h : Bod B L S w g k) : ∀ i, i < 36 → fmH k.i.op i → k.sz = (fmG i).2.2.2 → Calls prog (fmG i).2.2.1 #[.pointer (some ⟨g, 0, none⟩)] w fun e w' => Ret B L w g (aU V S k (grI i)).t (aU V S k (grI i)).S (aU V S k (grI i)).k (.tuple #[]) e w'
 | 0, _, hop, hs => vb0 hV h 
 | 1, _, hop, hs => vb1 hV h 
 | 2, _, hop, hs => vb2 hV h 
 | 3, _, hop, hs => vb3 hV h 
 | 4, _, hop, hs => vb4 hV h ⟨hop.1, hop.2⟩
 | 5, _, hop, hs => vb5 hV h (by have e : k.sz = 1 := hs; unfold Wk.s; omega) (by have e : k.sz = 1 := hs; unfold Wk.s; omega) (by have e : k.sz = 1 := hs; unfold Wk.s; omega)
 | 6, _, hop, hs => vb5 hV h (by have e : k.sz = 2 := hs; unfold Wk.s; omega) (by have e : k.sz = 2 := hs; unfold Wk.s; omega) (by have e : k.sz = 2 := hs; unfold Wk.s; omega)
 | 7, _, hop, hs => vb5 hV h (by have e : k.sz = 4 := hs; unfold Wk.s; omega) (by have e : k.sz = 4 := hs; unfold Wk.s; omega) (by have e : k.sz = 4 := hs; unfold Wk.s; omega)
 | 8, _, hop, hs => vb6 hV h (by have e : k.sz = 8 := hs; unfold Wk.s; omega) (by have e : k.sz = 8 := hs; unfold Wk.s; omega) (by have e : k.sz = 8 := hs; unfold Wk.s; omega)
 | 9, _, hop, hs => vb6 hV h (by have e : k.sz = 1 := hs; unfold Wk.s; omega) (by have e : k.sz = 1 := hs; unfold Wk.s; omega) (by have e : k.sz = 1 := hs; unfold Wk.s; omega)
 | 10, _, hop, hs => vb6 hV h (by have e : k.sz = 2 := hs; unfold Wk.s; omega) (by have e : k.sz = 2 := hs; unfold Wk.s; omega) (by have e : k.sz = 2 := hs; unfold Wk.s; omega)
 | 11, _, hop, hs => vb6 hV h (by have e : k.sz = 4 := hs; unfold Wk.s; omega) (by have e : k.sz = 4 := hs; unfold Wk.s; omega) (by have e : k.sz = 4 := hs; unfold Wk.s; omega)
 | 12, _, hop, hs => vb7 hV h (by have e : k.sz = 1 := hs; unfold Wk.s; omega) (by have e : k.sz = 1 := hs; unfold Wk.s; omega) (by have e : k.sz = 1 := hs; unfold Wk.s; omega)
 | 13, _, hop, hs => vb7 hV h (by have e : k.sz = 2 := hs; unfold Wk.s; omega) (by have e : k.sz = 2 := hs; unfold Wk.s; omega) (by have e : k.sz = 2 := hs; unfold Wk.s; omega)
 | 14, _, hop, hs => vb7 hV h (by have e : k.sz = 4 := hs; unfold Wk.s; omega) (by have e : k.sz = 4 := hs; unfold Wk.s; omega) (by have e : k.sz = 4 := hs; unfold Wk.s; omega)
 | 15, _, hop, hs => vb7 hV h (by have e : k.sz = 8 := hs; unfold Wk.s; omega) (by have e : k.sz = 8 := hs; unfold Wk.s; omega) (by have e : k.sz = 8 := hs; unfold Wk.s; omega)
 | 16, _, hop, hs => vb8 hV h (.inl ⟨Int.le_trans (by decide) hop.1, Int.le_trans hop.2 (by decide)⟩)
 | 17, _, hop, hs => vb9 hV h (.inl ⟨Int.le_trans (by decide) hop.1, Int.le_trans hop.2 (by decide)⟩)
 | 18, _, hop, hs => vb10 hV h 
 | 19, _, hop, hs => vb11 hV h 
 | 20, _, hop, hs => vb12 hV h 
 | 21, _, hop, hs => vb13 hV h 
 | 22, _, hop, hs => vb14 hV h 
 | 23, _, hop, hs => vb15 hV h 
 | 24, _, hop, hs => vb16 hV h 
 | 25, _, hop, hs => vb17 hV h 
 | 26, _, hop, hs => vb15 hV h 
 | 27, _, hop, hs => vb16 hV h 
 | 28, _, hop, hs => vb17 hV h 
 | 29, _, hop, hs => vb9 hV h (.inr ⟨hop.1, hop.2⟩)
 | 30, _, hop, hs => vb18 hV h (by have e : k.sz = 4 := hs; unfold Wk.s; omega) (by have e : k.sz = 4 := hs; unfold Wk.s; omega) (by have e : k.sz = 4 := hs; unfold Wk.s; omega)
 | 31, _, hop, hs => vb19 hV h (by have e : k.sz = 4 := hs; unfold Wk.s; omega) (by have e : k.sz = 4 := hs; unfold Wk.s; omega) (by have e : k.sz = 4 := hs; unfold Wk.s; omega)
 | 32, _, hop, hs => vb20 hV h (by have e : k.sz = 4 := hs; unfold Wk.s; omega) (by have e : k.sz = 4 := hs; unfold Wk.s; omega) (by have e : k.sz = 4 := hs; unfold Wk.s; omega)
 | 33, _, hop, hs => vb18 hV h (by have e : k.sz = 8 := hs; unfold Wk.s; omega) (by have e : k.sz = 8 := hs; unfold Wk.s; omega) (by have e : k.sz = 8 := hs; unfold Wk.s; omega)
 | 34, _, hop, hs => vb19 hV h (by have e : k.sz = 8 := hs; unfold Wk.s; omega) (by have e : k.sz = 8 := hs; unfold Wk.s; omega) (by have e : k.sz = 8 := hs; unfold Wk.s; omega)
 | 35, _, hop, hs => vb20 hV h (by have e : k.sz = 8 := hs; unfold Wk.s; omega) (by have e : k.sz = 8 := hs; unfold Wk.s; omega) (by have e : k.sz = 8 := hs; unfold Wk.s; omega)
 | n + 36, h36, _, _ => absurd h36 (by omega)
end Go.Proofs.YtddlmenfcbjoaaaGreatDoor
