import Derived.Test.YtddlmenfcbjoaaaGreatDoorK27
import Derived.Test.YtddlmenfcbjoaaaGreatDoorK29
import Derived.Test.YtddlmenfcbjoaaaGreatDoorK32
namespace Go.Proofs.YtddlmenfcbjoaaaGreatDoor
set_option linter.unusedVariables false
set_option maxRecDepth 100000
set_option maxHeartbeats 8000000
open Go.ChangeShapes Go.WideShapes Go.ChangeAt Go.RowKit Go.Deep _root_.Go.Proofs.Tryz
theorem uR {K : Cp} (h : PR K = K) {n : Nat} (hn : n ≠ 0) (v : BitVec 64) : PR { K with x := upd K.x n v } = { K with x := upd K.x n v } := by
 have hx : upd K.x 0 0#64 = K.x := congrArg Cp.x h
 have e : PR { K with x := upd K.x n v } = { PR K with x := upd (upd K.x n v) 0 0#64 } := rfl
 have e2 : upd (upd K.x n v) 0 0#64 = upd K.x n v := by
  funext j
  have q := congrFun hx 0
  unfold upd at q ⊢
  by_cases h0 : j = 0
  ·subst h0; rw [if_pos rfl, if_neg (Ne.symm hn)]; simpa using q
  ·rw [if_neg h0]
 rw [e, h, e2]
theorem xD {K : Cp} (h : PR K = K) (v : BitVec 64) : PR { K with pc := v &&& ~~~1#64 } = { K with pc := v &&& ~~~1#64 } := by
 have e : PR { K with pc := v &&& ~~~1#64 } = { PR K with pc := v &&& ~~~1#64 &&& ~~~1#64 } := rfl
 rw [e, h, BitVec.and_assoc, BitVec.and_self]
def RmW (S T : St) (ad : BitVec 64) (z : Nat) : Prop := T.ram.length = S.ram.length ∧ ∀ j, j < S.ram.length → T.ram.getD j 0 ≠ S.ram.getD j 0 → n64 ad ≤ 2147483648 + (j : Int) ∧ 2147483648 + (j : Int) < n64 ad + z
theorem RmW.same {S T : St} (h : T.ram = S.ram) (ad : BitVec 64) (z : Nat) : RmW S T ad z := ⟨by rw [h], fun j _ q => absurd (by rw [h]) q⟩
theorem ZK {S : St} {ad : BitVec 64} {z : Nat} (hz : cW z) (v : Int) : RmW S (S.sto2 (n64 ad) z v).2 ad z := by
 have hz0 : 0 < z := by rcases hz with rfl | rfl | rfl | rfl <;> decide
 by_cases hf : fnd S.ram.length (n64 ad) z = 0
 ·have hi := PG (fnd_0 hf) (by omega)
  have e := LG v hf
  have hl : (n64 ad - 2147483648).toNat + (ptL v.toNat (z : Int).toNat).length ≤ S.ram.length := by rw [bW]; omega
  refine ⟨?_, fun j hj hne => ?_⟩
  ·rw [e]; exact qS _ _ _ hl
  ·have eg : (S.sto2 (n64 ad) z v).2.ram[j]? = if (n64 ad - 2147483648).toNat ≤ j ∧ j < (n64 ad - 2147483648).toNat + (ptL v.toNat (z : Int).toNat).length then (ptL v.toNat (z : Int).toNat)[j - (n64 ad - 2147483648).toNat]? else S.ram[j]? := by
    rw [e]; exact yQ _ _ _ hl j
   by_cases q : (n64 ad - 2147483648).toNat ≤ j ∧ j < (n64 ad - 2147483648).toNat + (ptL v.toNat (z : Int).toNat).length
   ·rw [bW] at q
    omega
   ·rw [if_neg q] at eg
    exact absurd (by rw [List.getD_eq_getElem?_getD, List.getD_eq_getElem?_getD, eg]) hne
 ·exact .same (LH v hf) _ _
theorem AK (S : St) (k : Wy) (z : Nat) : (mvT S k z).ram = S.ram := by
 unfold mvT; split
 ·rfl
 ·exact (ld_q S _ _).1
theorem RmW.pre {S S' T : St} {ad : BitVec 64} {z : Nat} (h : RmW S' T ad z) (e : S'.ram = S.ram) : RmW S T ad z := by unfold RmW at *; rwa [e] at h
theorem xC {S : St} {k : Wy} {z : Nat} (hz : cW z) (f : BitVec 64 → BitVec 64) : RmW S (MV S k z (some f)).S k.ad z := by
 by_cases ht : (fbd S k z).is = true
 ·exact .same (by simp only [MV]; rw [if_pos ht]) _ _
 ·rw [NA (tP ht)]
  exact (ZK hz _).pre (AK S k z)
theorem UI {S : St} {k : Wy} {z : Nat} : (MV S k z none).S.ram = S.ram := by
 by_cases ht : (fbd S k z).is = true
 ·simp only [MV]; rw [if_pos ht]
 ·rw [MZ (tP ht)]
  exact AK S k z
theorem EP {S : St} {k : Wy} {sz : Int} {f : Option (BitVec 64 → BitVec 64)} (h : (PL S k sz f).t.is = false) : ∃ z : Nat, cW z ∧ sz = z := by
 by_cases hz : sz = 1 ∨ sz = 2 ∨ sz = 4 ∨ sz = 8
 ·exact ⟨sz.toNat, by unfold cW; omega, by omega⟩
 ·unfold PL at h
  rw [if_neg (by omega), if_neg (by omega), if_neg (by omega), if_neg (by omega)] at h
  cases h
theorem xB {S : St} {k : Wy} {sz : Int} {f : Option (BitVec 64 → BitVec 64)} (h : (AT S k sz f).t.is = false) : ∃ z : Nat, (z = 4 ∨ z = 8) ∧ sz = z := by
 by_cases hz : sz = 4 ∨ sz = 8
 ·exact ⟨sz.toNat, by omega, by omega⟩
 ·unfold AT at h
  rw [if_neg hz] at h
  cases h
theorem uO {S : St} {k : Wy} {sz : Int} : (AT S k sz none).S = S := by
 by_cases hz : sz = 4 ∨ sz = 8
 ·obtain ⟨z, hz4, ez⟩ : ∃ z : Nat, (z = 4 ∨ z = 8) ∧ sz = z := ⟨sz.toNat, by omega, by omega⟩
  rw [uN (z := z) (by unfold cW; omega) ez (by omega)]
  exact UH (by unfold cW; omega) rfl
 ·unfold AT; rw [if_neg hz]
def Mm (S T : St) (d : Dd) : Prop := (d.me = 0 ∧ T = S) ∨ (d.me = 1 ∧ T.ram = S.ram) ∨ ((d.me = 2 ∨ d.me = 3) ∧ ∃ z : Nat, 0 < z ∧ z ≤ 8 ∧ d.sz = z ∧ RmW S T d.ad z)
def Kpo (op : Int) (C K : Cp) : Prop := (56 ≤ op ∧ op ≤ 61) ∨ ((op = 54 ∨ K.md = C.md) ∧ (op = 55 ∨ K.wt = C.wt) ∧ (∀ j, j ≠ 0 → K.s j = C.s j) ∧ (op = 54 ∨ K.s 0 = C.s 0) ∧ K.c = C.c ∧ K.a = C.a)
theorem Kpo.refl (op : Int) (C : Cp) : Kpo op C C := .inr ⟨.inr rfl, .inr rfl, fun _ _ => rfl, .inr rfl, rfl, rfl⟩
theorem Kpo.res {op : Int} {C K : Cp} (h : K.md = C.md ∧ K.wt = C.wt ∧ K.s = C.s ∧ K.c = C.c ∧ K.a = C.a) : Kpo op C K := .inr ⟨.inr h.1, .inr h.2.1, fun j _ => by rw [h.2.2.1], .inr (by rw [h.2.2.1]), h.2.2.2.1, h.2.2.2.2⟩
structure Fq (S : St) (k : Wk) (T : St) (k' : Wk) : Prop where
 pr : PR k'.k = k'.k
 rd : k'.d.rd = 0
 x : k'.k.x = k.k.x
 i : k'.i = k.i
 m : Mm S T k'.d
 kp : Kpo k.i.op k.k k'.k
structure Fm (S : St) (k : Wk) (T : St) (k' : Wk) : Prop where
 pr : PR k'.k = k'.k
 x : (k'.d.rd = 0 ∧ k'.k.x = k.k.x) ∨ (k'.d.rd = k.i.rd ∧ k.i.rd ≠ 0 ∧ k'.k.x = upd k.k.x k.i.rd.toNat k'.d.v)
 m : Mm S T k'.d
 kp : Kpo k.i.op k.k k'.k
theorem Fq.fm {S T : St} {k k' : Wk} (h : Fq S k T k') : Fm S k T k' := ⟨h.pr, .inl ⟨h.rd, h.x⟩, h.m, h.kp⟩
theorem Fq.put {S T : St} {k k' : Wk} (h : Fq S k T k') (hrd : 0 ≤ k.i.rd) (v : BitVec 64) : Fm S k T (ptK k' v) := by
 by_cases h0 : k'.i.rd = 0
 ·have e : ptK k' v = k' := by unfold ptK; rw [if_pos h0]
  rw [e]; exact h.fm
 ·have e : ptK k' v = { k' with k := { k'.k with x := upd k'.k.x k'.i.rd.toNat v }, d := { k'.d with rd := k'.i.rd, v := v } } := by unfold ptK; rw [if_neg h0]
  have hi : k'.i.rd = k.i.rd := by rw [h.i]
  rw [e]
  refine ⟨uR h.pr (by omega) v, .inr ⟨hi, by omega, ?_⟩, h.m, ?_⟩
  ·show upd k'.k.x k'.i.rd.toNat v = upd k.k.x k.i.rd.toNat v
   rw [h.x, hi]
  ·exact h.kp
theorem Fm.nx {S T : St} {k k' : Wk} (h : Fm S k T k') (v : BitVec 64) : Fm S k T { k' with nx := v } := ⟨h.pr, h.x, h.m, h.kp⟩
theorem Fm.pc {S T : St} {k k' : Wk} (h : Fm S k T k') (v : BitVec 64) : Fm S k T { k' with k := { k'.k with pc := v &&& ~~~1#64 } } := ⟨xD h.pr v, h.x, h.m, h.kp⟩
structure Bg (k : Wk) : Prop where
 pr : PR k.k = k.k
 p : k.p = k.k
 d : k.d = dZ
 rd : 0 ≤ k.i.rd
theorem Fq.same (S : St) {k : Wk} (h : Bg k) : Fq S k S k := ⟨h.pr, by rw [h.d]; rfl, rfl, rfl, .inl ⟨by rw [h.d]; rfl, rfl⟩, .refl _ _⟩
theorem LD {K : Cp} (h : PR K = K) (m : Mv) (ad : BitVec 64) (sz : Int) : stK (PR K) m ad sz = K ∨ stK (PR K) m ad sz = nores K := by
 unfold stK
 rw [h]
 split
 ·exact .inl rfl
 ·exact UW _ _ _
theorem Fq.tl {S T : St} {k : Wk} (h : Bg k) {c : Cp} (hc : c = k.k ∨ c = nores k.k) (me : Int) (ad da : BitVec 64) (hm : Mm S T { k.d with me := me, ad := ad, sz := (k.s : Int), da := loV da k.s }) : Fq S k T (tlK k c me ad da) := by
 refine ⟨?_, by show k.d.rd = 0; rw [h.d]; rfl, ?_, rfl, hm, ?_⟩
 ·show PR c = c
  rcases hc with e | e <;> rw [e]
  ·exact h.pr
  ·exact uP h.pr
 ·show c.x = k.k.x
  rcases hc with e | e <;> rw [e]
  rfl
 ·show Kpo k.i.op k.k c
  rcases hc with e | e <;> rw [e]
  ·exact .refl _ _
  ·exact .res ⟨rfl, rfl, rfl, rfl, rfl⟩
theorem MM {z : Nat} (h : cW z) : 0 < z ∧ z ≤ 8 := by unfold cW at h; omega
structure Gk (gr : Nat) (k : Wk) : Prop where
 a : gr = 13 → k.i.op = 54
 b : gr = 14 → k.i.op = 55
 c : 15 ≤ gr → gr ≤ 17 → 56 ≤ k.i.op ∧ k.i.op ≤ 61
 d : 20 ≤ gr → (k.s : Int) = dP k.i.op
theorem xQ {S : St} {k : Wk} (h : Bg k) (hop : 56 ≤ k.i.op ∧ k.i.op ≤ 61) (z : BitVec 64) : Fm S k (csB k S z).S (csB k S z).k := by
 have q : Fq S k S (wrK k z) := by
  have st := UP k.k k.i.im z
  refine ⟨PR_WR _ _ _, by show k.d.rd = 0; rw [h.d]; rfl, ?_, rfl, .inl ⟨by show k.d.me = 0; rw [h.d]; rfl, rfl⟩, .inl hop⟩
  show (WR k.k k.i.im z).x = k.k.x
  rw [st.x, h.pr]
 exact q.put h.rd _
theorem AF {S : St} {k : Wk} (h : Bg k) (ht : (mLd S k).t.is = false) (v : BitVec 64) : Fm S k (mLd S k).S (ptK (tlK k k.k 1 (adI k) 0#64) v) := by
 refine (Fq.tl h (.inl rfl) 1 (adI k) 0#64 (.inr (.inl ⟨rfl, ?_⟩))).put h.rd v
 obtain ⟨z, hz, e⟩ := EP ht
 unfold mLd
 rw [EO hz e]
 exact UI
theorem ND {K : Cp} (h : PR K = K) : (RTc K).x = K.x ∧ (RTc K).wt = K.wt ∧ (∀ j, j ≠ 0 → (RTc K).s j = K.s j) ∧ (RTc K).c = K.c ∧ (RTc K).a = K.a := by
 unfold RTc
 rw [h]
 split
 ·exact ⟨rfl, rfl, fun j hj => by show upd K.s 0 _ j = K.s j; unfold upd; rw [if_neg hj], rfl, rfl⟩
 ·exact ⟨rfl, rfl, fun _ _ => rfl, rfl, rfl⟩
theorem NF {K : Cp} (h : PR K = K) : (WTc K).x = K.x ∧ (WTc K).md = K.md ∧ (WTc K).s = K.s ∧ (WTc K).c = K.c ∧ (WTc K).a = K.a := by
 unfold WTc
 rw [h]
 split
 ·exact ⟨rfl, rfl, rfl, rfl, rfl⟩
 ·exact ⟨rfl, rfl, rfl, rfl, rfl⟩
theorem zS (V : ZqZ) (S : St) (k : Wk) (h : Bg k) : ∀ gr, Gk gr k → (aU V S k gr).t.is = false → Fm S k (aU V S k gr).S (aU V S k gr).k
 | 0, _, _ => (Fq.same S h).put h.rd _
 | 1, _, _ => (Fq.same S h).put h.rd _
 | 2, _, _ => ((Fq.same S h).put h.rd _).nx _
 | 3, _, _ => ((Fq.same S h).put h.rd _).nx _
 | 4, _, _ => by
  show Fm S k S (if tkB k.i.op (k.p.x k.n) (k.p.x k.m) = true then { k with nx := k.p.pc + iB k.i.im } else k)
  split
  ·exact (Fq.same S h).fm.nx _
  ·exact (Fq.same S h).fm
 | 5, _, ht => AF h ht _
 | 6, _, ht => AF h ht _
 | 7, _, ht => by
  have ht' : (mSt S k).t.is = false := ht
  refine (Fq.tl h (LD h.pr (mSt S k) (adI k) k.s) 2 (adI k) (k.p.x k.m) (.inr (.inr ⟨.inl rfl, k.s, ?_⟩))).fm
  obtain ⟨z, hz, e⟩ := EP ht'
  have e' : k.s = z := by omega
  refine ⟨by have := MM hz; omega, by have := MM hz; omega, rfl, ?_⟩
  show RmW S (mSt S k).S (adI k) k.s
  unfold mSt
  rw [EO hz e, e']
  exact xC (k := wS 0 (PR k.k) (adI k)) hz _
 | 8, _, _ => (Fq.same S h).put h.rd _
 | 9, _, _ => (Fq.same S h).put h.rd _
 | 10, _, _ => (Fq.same S h).fm
 | 11, _, ht => by cases ht
 | 12, _, ht => by cases ht
 | 13, g, _ => by
  obtain ⟨q1, q2, q3, q4, q5⟩ := ND h.pr
  show Fm S k S { k with k := RTc k.k, nx := (RTc k.k).pc }
  exact ⟨RT_pr _, .inl ⟨by show k.d.rd = 0; rw [h.d]; rfl, q1⟩, .inl ⟨by show k.d.me = 0; rw [h.d]; rfl, rfl⟩, .inr ⟨.inl (g.a rfl), .inr q2, q3, .inl (g.a rfl), q4, q5⟩⟩
 | 14, g, _ => by
  obtain ⟨q1, q2, q3, q4, q5⟩ := NF h.pr
  show Fm S k S { k with k := WTc k.k }
  exact ⟨WT_pr _, .inl ⟨by show k.d.rd = 0; rw [h.d]; rfl, q1⟩, .inl ⟨by show k.d.me = 0; rw [h.d]; rfl, rfl⟩, .inr ⟨.inr q2, .inl (g.b rfl), fun j _ => by show (WTc k.k).s j = k.k.s j; rw [q3], .inr (by show (WTc k.k).s 0 = k.k.s 0; rw [q3]), q4, q5⟩⟩
 | 15, g, ht => by
  revert ht
  rw [show aU V S k 15 = if RK k.k k.i.im = true then csB k S (opV k k.n) else ⟨tS 2 (rB k.i.rw), S, k⟩ from rfl]
  split
  ·exact fun _ => xQ h (g.c (by omega) (by omega)) _
  ·exact fun ht => by cases ht
 | 16, g, ht => by
  revert ht
  rw [show aU V S k 16 = if RK k.k k.i.im = true then (if k.i.r1 = 0 then ⟨tN, S, ptK k (rV S k.k k.i.im)⟩ else csB k S (rV S k.k k.i.im ||| opV k k.n)) else ⟨tS 2 (rB k.i.rw), S, k⟩ from rfl]
  split
  ·split
   ·exact fun _ => (Fq.same S h).put h.rd _
   ·exact fun _ => xQ h (g.c (by omega) (by omega)) _
  ·exact fun ht => by cases ht
 | 17, g, ht => by
  revert ht
  rw [show aU V S k 17 = if RK k.k k.i.im = true then (if k.i.r1 = 0 then ⟨tN, S, ptK k (rV S k.k k.i.im)⟩ else csB k S (rV S k.k k.i.im &&& ~~~(opV k k.n))) else ⟨tS 2 (rB k.i.rw), S, k⟩ from rfl]
  split
  ·split
   ·exact fun _ => (Fq.same S h).put h.rd _
   ·exact fun _ => xQ h (g.c (by omega) (by omega)) _
  ·exact fun ht => by cases ht
 | 18, _, ht => by
  have ht' : (mLr S k).t.is = false := ht
  have hS : (mLr S k).S = S := uO
  obtain ⟨z, hz, e⟩ := xB ht'
  have hal : ((k.s : Int) = 4 ∧ k.p.x k.n % 4#64 = 0#64) ∨ ((k.s : Int) = 8 ∧ k.p.x k.n % 8#64 = 0#64) := by
   rcases hz with e4 | e4
   ·have ht2 := ht'
    unfold mLr at ht2
    rw [uN (z := 4) (by simp [cW]) (by omega) (by omega)] at ht2
    exact .inl ⟨by omega, al_4 (BN ht2).2.1⟩
   ·have ht2 := ht'
    unfold mLr at ht2
    rw [uN (z := 8) (by simp [cW]) (by omega) (by omega)] at ht2
    exact .inr ⟨by omega, al_8 (BN ht2).2.1⟩
  have er : rsK (PR k.k) (mLr S k) (k.p.x k.n) k.s = { k.k with rv := true, ra := k.p.x k.n, rs := (k.s : Int) } := by unfold rsK; rw [if_neg (by rw [ht']; simp), h.pr]
  have q : Fq S k (mLr S k).S (tlK k (rsK (PR k.k) (mLr S k) (k.p.x k.n) k.s) 1 (k.p.x k.n) 0#64) := by
   rw [er, hS]
   refine ⟨uQ h.pr hal, by show k.d.rd = 0; rw [h.d]; rfl, rfl, rfl, .inr (.inl ⟨rfl, rfl⟩), .res ⟨rfl, rfl, rfl, rfl, rfl⟩⟩
  exact q.put h.rd _
 | 19, _, ht => by
  have ht' : (mSc S k).t.is = false := ht
  have hc : scC S k = nores k.k := by unfold scC; rw [if_neg (by rw [ht']; simp), h.pr]
  show Fm S k (mSc S k).S (if scB S k = true then ptK (tlK k (scC S k) 2 (k.p.x k.n) (k.p.x k.m)) 0#64 else ptK { k with k := scC S k } 1#64)
  by_cases hb : scB S k = true
  ·rw [if_pos hb]
   refine (Fq.tl h (.inr hc) 2 _ _ (.inr (.inr ⟨.inl rfl, k.s, ?_⟩))).put h.rd _
   obtain ⟨z, hz, e⟩ := xB ht'
   have e' : k.s = z := by omega
   refine ⟨by omega, by omega, rfl, ?_⟩
   have hh : hel (PR k.k) (k.p.x k.n) k.s = true := by
    unfold scB at hb
    rw [ht'] at hb
    simpa using hb
   show RmW S (mSc S k).S (k.p.x k.n) k.s
   unfold mSc
   rw [if_pos hh, uN (z := z) (by unfold cW; omega) e (by omega), e']
   exact xC (k := { wS 0 (PR k.k) (k.p.x k.n) with ra := true }) (by unfold cW; omega) _
  ·rw [if_neg hb]
   have hh : ¬ hel (PR k.k) (k.p.x k.n) k.s = true := fun hq => hb (by unfold scB; rw [ht', hq]; rfl)
   have hS : (mSc S k).S = S := by unfold mSc; rw [if_neg hh]; exact uO
   have q : Fq S k (mSc S k).S { k with k := scC S k } := by
    rw [hS, hc]
    exact ⟨uP h.pr, by show k.d.rd = 0; rw [h.d]; rfl, rfl, rfl, .inl ⟨by show k.d.me = 0; rw [h.d]; rfl, rfl⟩, .res ⟨rfl, rfl, rfl, rfl, rfl⟩⟩
   exact q.put h.rd _
 | n + 20, g, ht => by
  have ht' : (mAm S k).t.is = false := ht
  have hs := g.d (by omega)
  refine (Fq.tl h (LD h.pr (mAm S k) (k.p.x k.n) (dP k.i.op)) 3 _ _ (.inr (.inr ⟨.inr rfl, k.s, ?_⟩))).put h.rd _
  have hz : ∃ z : Nat, (z = 4 ∨ z = 8) ∧ k.s = z ∧ mAm S k = MV S { wS 0 (PR k.k) (k.p.x k.n) with r := 3, ra := true } z (some fun x => amV k.i.op x (k.p.x k.m)) := by
   unfold mAm AM at ht' ⊢
   by_cases h0 : dP k.i.op = 0
   ·rw [if_pos h0] at ht'; cases ht'
   ·rw [if_neg h0] at ht' ⊢
    obtain ⟨z, hz, e⟩ := xB ht'
    exact ⟨z, hz, by omega, by rw [uN (z := z) (by unfold cW; omega) e (by omega)]⟩
  obtain ⟨z, hz, e', em⟩ := hz
  refine ⟨by omega, by omega, rfl, ?_⟩
  show RmW S (mAm S k).S (k.p.x k.n) k.s
  rw [em, e']
  exact xC (k := { wS 0 (PR k.k) (k.p.x k.n) with r := 3, ra := true }) (show cW z by unfold cW; omega) (fun x => amV k.i.op x (k.p.x k.m))
theorem gk_a : ∀ n, n < 36 → (grI n = 13 → n = 21) ∧ (grI n = 14 → n = 22) ∧ (15 ≤ grI n → grI n ≤ 17 → 56 ≤ (fmG n).1 ∧ (fmG n).2.1 ≤ 61) ∧ (20 ≤ grI n → n = 32 ∨ n = 35) := by decide
theorem TK (k : Wk) (n : Nat) (hn : n < 36) (h : fmH k.i.op n) : Gk (grI n) (szK k n) := by
 obtain ⟨q1, q2, q3, q4⟩ := gk_a n hn
 refine ⟨fun e => ?_, fun e => ?_, fun e e2 => ?_, fun e => ?_⟩
 ·have e' := q1 e
  subst e'
  have g1 : (54 : Int) ≤ k.i.op := h.1
  have g2 : k.i.op ≤ (54 : Int) := h.2
  show k.i.op = 54
  omega
 ·have e' := q2 e
  subst e'
  have g1 : (55 : Int) ≤ k.i.op := h.1
  have g2 : k.i.op ≤ (55 : Int) := h.2
  show k.i.op = 55
  omega
 ·have g := q3 e e2
  have g1 := h.1
  have g2 := h.2
  show 56 ≤ k.i.op ∧ k.i.op ≤ 61
  omega
 ·rcases q4 e with e' | e'
  ·subst e'
   have g1 : (77 : Int) ≤ k.i.op := h.1
   have g2 : k.i.op ≤ (85 : Int) := h.2
   show (4 : Int) = dP k.i.op
   unfold dP
   rw [if_pos ⟨g1, g2⟩]
  ·subst e'
   have g1 : (88 : Int) ≤ k.i.op := h.1
   have g2 : k.i.op ≤ (96 : Int) := h.2
   show (8 : Int) = dP k.i.op
   unfold dP
   rw [if_neg (by omega), if_pos ⟨g1, g2⟩]
theorem dR_fm {V : ZqZ} {S : St} {b : Nat} {c : Cp} {i : Ins} (h : (dR V S b c i).t.is = false) : ∃ k0 : Wk, k0.k = PR c ∧ k0.i = i ∧ 0 ≤ i.rd ∧ i.rd < 32 ∧ Fm S k0 (dR V S b c i).S (dR V S b c i).k := by
 have hf : (dR V S b c i) = rnM V S (wk0 b (PR c) i) := rfl
 rw [hf] at h ⊢
 unfold rnM at h ⊢
 cases hq : fmF (wk0 b (PR c) i).i.op with
 | none => rw [hq] at h; cases h
 | some n =>
  rw [hq] at h
  obtain ⟨hn, hop⟩ := pT hq
  simp only at h ⊢
  by_cases ht : ftB (wk0 b (PR c) i).i = true
  ·rw [if_pos ht] at h ⊢
   have hrd : 0 ≤ i.rd ∧ i.rd < 32 := by
    have q : ftB i = true := ht
    simp only [ftB, rgB, Bool.and_eq_true, decide_eq_true_eq] at q
    exact q.1.1.1
   have hbg : Bg (szK (wk0 b (PR c) i) n) := ⟨fR c, rfl, rfl, hrd.1⟩
   exact ⟨szK (wk0 b (PR c) i) n, rfl, rfl, hrd.1, hrd.2, (zS V S _ hbg _ (TK (wk0 b (PR c) i) n hn hop) h).pc _⟩
  ·rw [if_neg ht] at h; cases h
end Go.Proofs.YtddlmenfcbjoaaaGreatDoor
