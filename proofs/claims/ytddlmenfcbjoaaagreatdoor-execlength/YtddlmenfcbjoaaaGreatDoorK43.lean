import Derived.Test.YtddlmenfcbjoaaaGreatDoorK17
import Derived.Test.YtddlmenfcbjoaaaGreatDoorK32
namespace Go.Proofs.YtddlmenfcbjoaaaGreatDoor
set_option linter.unusedVariables false
set_option maxRecDepth 100000
set_option maxHeartbeats 8000000
open Go.ChangeShapes Go.WideShapes Go.ChangeAt Go.RowKit Go.Deep _root_.Go.Proofs.Tryz
structure Lk (k k' : Wk) : Prop where
 p : k'.p = k.p
 ck : k'.k = k.k
 op : k'.i.op = k.i.op
 rd : k'.i.rd = k.i.rd
 r1 : k'.i.r1 = k.i.r1
 r2 : k'.i.r2 = k.i.r2
 im : k'.i.im = k.i.im
 sz : k'.sz = k.sz
 d : k'.d = k.d
structure Lr (k k' : Wk) (R R' : Re) : Prop where
 is : R'.t.is = R.t.is
 S : R'.S = R.S
 tv : R.t.is = true → (R.t.ca = 2 ∧ R'.t.ca = 2 ∧ R.t.tv = rB k.i.rw ∧ R'.t.tv = rB k'.i.rw) ∨ (R.t.ca ≠ 2 ∧ R'.t = R.t)
 ck : R'.k.k = R.k.k
 d : R'.k.d = R.k.d
 nx : (R.k.nx = k.nx ∧ R'.k.nx = k'.nx) ∨ R.k.nx = R'.k.nx
theorem gI {k k' : Wk} {t t' : Tp} {S S' : St} {q q' : Wk} (h : Lr k k' ⟨t, S, q⟩ ⟨t', S', q'⟩) (hi : q'.i.rd = q.i.rd) (v : BitVec 64) : Lr k k' ⟨t, S, ptK q v⟩ ⟨t', S', ptK q' v⟩ := by
 have hk : q'.k = q.k := h.ck
 have hd : q'.d = q.d := h.d
 have hn : (ptK q v).nx = q.nx := by unfold ptK; split <;> rfl
 have hn' : (ptK q' v).nx = q'.nx := by unfold ptK; split <;> rfl
 refine ⟨h.is, h.S, h.tv, ?_, ?_, ?_⟩
 ·show (ptK q' v).k = (ptK q v).k
  unfold ptK
  rw [hi]
  split
  ·exact hk
  ·show ({ q'.k with x := upd q'.k.x q.i.rd.toNat v } : Cp) = { q.k with x := upd q.k.x q.i.rd.toNat v }
   rw [hk]
 ·show (ptK q' v).d = (ptK q v).d
  unfold ptK
  rw [hi]
  split
  ·exact hd
  ·show ({ q'.d with rd := q.i.rd, v := v } : Dd) = { q.d with rd := q.i.rd, v := v }
   rw [hd]
 ·show ((ptK q v).nx = k.nx ∧ (ptK q' v).nx = k'.nx) ∨ (ptK q v).nx = (ptK q' v).nx
  rw [hn, hn']; exact h.nx
theorem Lr.ti {k k' : Wk} (b : Bool) (S : St) {q q' : Wk} (hk : q'.k = q.k) (hd : q'.d = q.d) (hn : (q.nx = k.nx ∧ q'.nx = k'.nx) ∨ q.nx = q'.nx) : Lr k k' ⟨tI b k, S, q⟩ ⟨tI b k', S, q'⟩ := by
 cases b with
 | true => exact ⟨rfl, rfl, fun q => (by cases q), hk, hd, hn⟩
 | false => exact ⟨rfl, rfl, fun _ => .inl ⟨rfl, rfl, rfl, rfl⟩, hk, hd, hn⟩
section
variable {k k' : Wk} (h : Lk k k')
include h
theorem Lk.n : k'.n = k.n := by unfold Wk.n; rw [h.r1]
theorem Lk.m : k'.m = k.m := by unfold Wk.m; rw [h.r2]
theorem Lk.s : k'.s = k.s := by unfold Wk.s; rw [h.sz]
theorem Lk.ad : adI k' = adI k := by unfold adI; rw [h.p, h.n, h.im]
theorem Lk.same (S : St) : Lr k k' ⟨tN, S, k⟩ ⟨tN, S, k'⟩ := ⟨rfl, rfl, fun q => (by cases q), h.ck, h.d, .inl ⟨rfl, rfl⟩⟩
theorem Lk.ill (S : St) : Lr k k' ⟨tS 2 (rB k.i.rw), S, k⟩ ⟨tS 2 (rB k'.i.rw), S, k'⟩ := ⟨rfl, rfl, fun _ => .inl ⟨rfl, rfl, rfl, rfl⟩, h.ck, h.d, .inl ⟨rfl, rfl⟩⟩
theorem Lk.tl (c : Cp) (me : Int) (ad da : BitVec 64) : (tlK k' c me ad da).d = (tlK k c me ad da).d := by
 show ({ k'.d with me := me, ad := ad, sz := (k'.s : Int), da := loV da k'.s } : Dd) = { k.d with me := me, ad := ad, sz := (k.s : Int), da := loV da k.s }
 rw [h.d, h.s]
theorem Lk.acc {t : Tp} (ht : t.ca ≠ 2) (S : St) (c : Cp) (me : Int) (ad da : BitVec 64) : Lr k k' ⟨t, S, tlK k c me ad da⟩ ⟨t, S, tlK k' c me ad da⟩ :=
 ⟨rfl, rfl, fun _ => .inr ⟨ht, rfl⟩, rfl, h.tl c me ad da, .inl ⟨rfl, rfl⟩⟩
end
theorem rX {m : Mv} {S : St} {k : Wy} (h4 : k.mi = 4 ∨ k.mi = 6) (h5 : k.fa = 5 ∨ k.fa = 7) (hm : Trd S m) (h : m.t.is = true → m.t.ca = k.mi ∨ m.t.ca = k.fa) : m.t.ca ≠ 2 := by
 cases e : m.t.is with
 | true => have := h e; omega
 | false => rw [hm.2 e]; decide
theorem xO {k k' : Wk} (h : Lk k k') (S : St) (z : BitVec 64) : Lr k k' (csB k S z) (csB k' S z) := by
 unfold csB
 rw [h.ck, h.im]
 refine gI (k := k) (k' := k') (q := wrK k z) (q' := wrK k' z) (Lr.ti _ S ?_ ?_ (.inl ⟨rfl, rfl⟩)) h.rd _
 ·show WR k'.k k'.i.im z = WR k.k k.i.im z
  rw [h.ck, h.im]
 ·show ({ k'.d with wc := (k'.i.im == 2816), wi := (k'.i.im == 2818) } : Dd) = { k.d with wc := (k.i.im == 2816), wi := (k.i.im == 2818) }
  rw [h.d, h.im]
theorem yG {k k' : Wk} (h : Lk k k') (n : Nat) : opV k' n = opV k n := by unfold opV; rw [h.op, h.p]
theorem NT (V : ZqZ) (S : St) {k k' : Wk} (h : Lk k k') : ∀ gr, gr ≠ 2 → gr ≠ 3 → (20 ≤ gr → dP k.i.op ≠ 0) → Lr k k' (aU V S k gr) (aU V S k' gr)
 | 0, _, _, _ => by
  show Lr k k' ⟨tN, S, ptK k (iB k.i.im)⟩ ⟨tN, S, ptK k' (iB k'.i.im)⟩
  rw [h.im]; exact gI (h.same S) h.rd _
 | 1, _, _, _ => by
  show Lr k k' ⟨tN, S, ptK k (k.p.pc + iB k.i.im)⟩ ⟨tN, S, ptK k' (k'.p.pc + iB k'.i.im)⟩
  rw [h.im, h.p]; exact gI (h.same S) h.rd _
 | 2, q, _, _ => absurd rfl q
 | 3, _, q, _ => absurd rfl q
 | 4, _, _, _ => by
  show Lr k k' ⟨tN, S, if tkB k.i.op (k.p.x k.n) (k.p.x k.m) = true then { k with nx := k.p.pc + iB k.i.im } else k⟩ ⟨tN, S, if tkB k'.i.op (k'.p.x k'.n) (k'.p.x k'.m) = true then { k' with nx := k'.p.pc + iB k'.i.im } else k'⟩
  rw [h.op, h.n, h.m, h.p, h.im]
  split
  ·exact ⟨rfl, rfl, fun q => (by cases q), h.ck, h.d, .inr rfl⟩
  ·exact h.same S
 | 5, _, _, _ => by
  have e : mLd S k' = mLd S k := by unfold mLd; rw [h.ck, h.ad, h.s]
  show Lr k k' ⟨(mLd S k).t, (mLd S k).S, ptK (tlK k k.k 1 (adI k) 0#64) (exV (mLd S k).old k.s)⟩ ⟨(mLd S k').t, (mLd S k').S, ptK (tlK k' k'.k 1 (adI k') 0#64) (exV (mLd S k').old k'.s)⟩
  rw [e, h.ck, h.ad, h.s]
  exact gI (h.acc (rX (k := wL 0 (PR k.k) (adI k)) (.inl rfl) (.inl rfl) (mB _ _ _ _) pJ) _ _ _ _ _) h.rd _
 | 6, _, _, _ => by
  have e : mLd S k' = mLd S k := by unfold mLd; rw [h.ck, h.ad, h.s]
  show Lr k k' ⟨(mLd S k).t, (mLd S k).S, ptK (tlK k k.k 1 (adI k) 0#64) (mLd S k).old⟩ ⟨(mLd S k').t, (mLd S k').S, ptK (tlK k' k'.k 1 (adI k') 0#64) (mLd S k').old⟩
  rw [e, h.ck, h.ad]
  exact gI (h.acc (rX (k := wL 0 (PR k.k) (adI k)) (.inl rfl) (.inl rfl) (mB _ _ _ _) pJ) _ _ _ _ _) h.rd _
 | 7, _, _, _ => by
  have e : mSt S k' = mSt S k := by unfold mSt; rw [h.ck, h.ad, h.s, h.p, h.m]
  show Lr k k' ⟨(mSt S k).t, (mSt S k).S, tlK k (stK (PR k.k) (mSt S k) (adI k) k.s) 2 (adI k) (k.p.x k.m)⟩ ⟨(mSt S k').t, (mSt S k').S, tlK k' (stK (PR k'.k) (mSt S k') (adI k') k'.s) 2 (adI k') (k'.p.x k'.m)⟩
  rw [e, h.ck, h.ad, h.s, h.p, h.m]
  exact h.acc (rX (k := wS 0 (PR k.k) (adI k)) (.inr rfl) (.inr rfl) (mB _ _ _ _) pJ) _ _ _ _ _
 | 8, _, _, _ => by
  show Lr k k' ⟨tN, S, ptK k (V k.i.op (k.p.x k.n) (iB k.i.im))⟩ ⟨tN, S, ptK k' (V k'.i.op (k'.p.x k'.n) (iB k'.i.im))⟩
  rw [h.op, h.p, h.n, h.im]; exact gI (h.same S) h.rd _
 | 9, _, _, _ => by
  show Lr k k' ⟨tN, S, ptK k (V k.i.op (k.p.x k.n) (k.p.x k.m))⟩ ⟨tN, S, ptK k' (V k'.i.op (k'.p.x k'.n) (k'.p.x k'.m))⟩
  rw [h.op, h.p, h.n, h.m]; exact gI (h.same S) h.rd _
 | 10, _, _, _ => h.same S
 | 11, _, _, _ => by
  show Lr k k' ⟨tS (if k.p.md = 0 then 8 else 11) 0#64, S, k⟩ ⟨tS (if k'.p.md = 0 then 8 else 11) 0#64, S, k'⟩
  rw [h.p]
  exact ⟨rfl, rfl, fun _ => .inr ⟨by show ¬ (if k.p.md = 0 then (8 : Int) else 11) = 2; split <;> omega, rfl⟩, h.ck, h.d, .inl ⟨rfl, rfl⟩⟩
 | 12, _, _, _ => by
  show Lr k k' ⟨tS 3 k.p.pc, S, k⟩ ⟨tS 3 k'.p.pc, S, k'⟩
  rw [h.p]
  exact ⟨rfl, rfl, fun _ => .inr ⟨by show ¬ (3 : Int) = 2; omega, rfl⟩, h.ck, h.d, .inl ⟨rfl, rfl⟩⟩
 | 13, _, _, _ => by
  show Lr k k' ⟨tI (RTk k.k) k, S, { k with k := RTc k.k, nx := (RTc k.k).pc }⟩ ⟨tI (RTk k'.k) k', S, { k' with k := RTc k'.k, nx := (RTc k'.k).pc }⟩
  rw [h.ck]
  exact Lr.ti _ S rfl h.d (.inr rfl)
 | 14, _, _, _ => by
  show Lr k k' ⟨tI (WTk k.k) k, S, { k with k := WTc k.k }⟩ ⟨tI (WTk k'.k) k', S, { k' with k := WTc k'.k }⟩
  rw [h.ck]
  exact Lr.ti _ S rfl h.d (.inl ⟨rfl, rfl⟩)
 | 15, _, _, _ => by
  show Lr k k' (if RK k.k k.i.im = true then csB k S (opV k k.n) else ⟨tS 2 (rB k.i.rw), S, k⟩) (if RK k'.k k'.i.im = true then csB k' S (opV k' k'.n) else ⟨tS 2 (rB k'.i.rw), S, k'⟩)
  rw [yG h, h.n, h.ck, h.im]
  split
  ·exact xO h S _
  ·exact h.ill S
 | 16, _, _, _ => by
  show Lr k k' (if RK k.k k.i.im = true then (if k.i.r1 = 0 then ⟨tN, S, ptK k (rV S k.k k.i.im)⟩ else csB k S (rV S k.k k.i.im ||| opV k k.n)) else ⟨tS 2 (rB k.i.rw), S, k⟩) (if RK k'.k k'.i.im = true then (if k'.i.r1 = 0 then ⟨tN, S, ptK k' (rV S k'.k k'.i.im)⟩ else csB k' S (rV S k'.k k'.i.im ||| opV k' k'.n)) else ⟨tS 2 (rB k'.i.rw), S, k'⟩)
  rw [yG h, h.n, h.ck, h.im, h.r1]
  split
  ·split
   ·exact gI (h.same S) h.rd _
   ·exact xO h S _
  ·exact h.ill S
 | 17, _, _, _ => by
  show Lr k k' (if RK k.k k.i.im = true then (if k.i.r1 = 0 then ⟨tN, S, ptK k (rV S k.k k.i.im)⟩ else csB k S (rV S k.k k.i.im &&& ~~~(opV k k.n))) else ⟨tS 2 (rB k.i.rw), S, k⟩) (if RK k'.k k'.i.im = true then (if k'.i.r1 = 0 then ⟨tN, S, ptK k' (rV S k'.k k'.i.im)⟩ else csB k' S (rV S k'.k k'.i.im &&& ~~~(opV k' k'.n))) else ⟨tS 2 (rB k'.i.rw), S, k'⟩)
  rw [yG h, h.n, h.ck, h.im, h.r1]
  split
  ·split
   ·exact gI (h.same S) h.rd _
   ·exact xO h S _
  ·exact h.ill S
 | 18, _, _, _ => by
  have e : mLr S k' = mLr S k := by unfold mLr; rw [h.ck, h.p, h.n, h.s]
  show Lr k k' ⟨(mLr S k).t, (mLr S k).S, ptK (tlK k (rsK (PR k.k) (mLr S k) (k.p.x k.n) k.s) 1 (k.p.x k.n) 0#64) (exV (mLr S k).old k.s)⟩ ⟨(mLr S k').t, (mLr S k').S, ptK (tlK k' (rsK (PR k'.k) (mLr S k') (k'.p.x k'.n) k'.s) 1 (k'.p.x k'.n) 0#64) (exV (mLr S k').old k'.s)⟩
  rw [e, h.ck, h.p, h.n, h.s]
  exact gI (h.acc (rX (k := wL 0 (PR k.k) (k.p.x k.n)) (.inl rfl) (.inl rfl) (pI _ _ _ _) rU) _ _ _ _ _) h.rd _
 | 19, _, _, _ => by
  have e : mSc S k' = mSc S k := by unfold mSc; rw [h.ck, h.p, h.n, h.s, h.m]
  have e2 : scB S k' = scB S k := by unfold scB; rw [e, h.ck, h.p, h.n, h.s]
  have e3 : scC S k' = scC S k := by unfold scC; rw [e, h.ck]
  have hne := rX (m := mSc S k) (k := wS 0 (PR k.k) (k.p.x k.n)) (.inr rfl) (.inr rfl) (pI _ _ _ _) rU
  show Lr k k' ⟨(mSc S k).t, (mSc S k).S, if scB S k = true then ptK (tlK k (scC S k) 2 (k.p.x k.n) (k.p.x k.m)) 0#64 else ptK { k with k := scC S k } 1#64⟩ ⟨(mSc S k').t, (mSc S k').S, if scB S k' = true then ptK (tlK k' (scC S k') 2 (k'.p.x k'.n) (k'.p.x k'.m)) 0#64 else ptK { k' with k := scC S k' } 1#64⟩
  rw [e2, e3, e, h.p, h.n, h.m]
  split
  ·exact gI (h.acc hne _ _ _ _ _) h.rd _
  ·exact gI (k := k) (k' := k') (q := { k with k := scC S k }) (q' := { k' with p := k.p, k := scC S k }) ⟨rfl, rfl, fun _ => .inr ⟨hne, rfl⟩, rfl, h.d, .inl ⟨rfl, rfl⟩⟩ h.rd _
 | n + 20, _, _, h0 => by
  have e : mAm S k' = mAm S k := by unfold mAm; rw [h.ck, h.p, h.n, h.m, h.op]
  have hne : (mAm S k).t.ca ≠ 2 := by
   refine rX (k := { wS 0 (PR k.k) (k.p.x k.n) with r := 3 }) (.inr rfl) (.inr rfl) (EH S _ _ _ _ _) ?_
   unfold mAm AM
   rw [if_neg (h0 (by omega))]
   exact rU
  show Lr k k' ⟨(mAm S k).t, (mAm S k).S, ptK (tlK k (stK (PR k.k) (mAm S k) (k.p.x k.n) (dP k.i.op)) 3 (k.p.x k.n) (mAm S k).st) (exV (mAm S k).old k.s)⟩ ⟨(mAm S k').t, (mAm S k').S, ptK (tlK k' (stK (PR k'.k) (mAm S k') (k'.p.x k'.n) (dP k'.i.op)) 3 (k'.p.x k'.n) (mAm S k').st) (exV (mAm S k').old k'.s)⟩
  rw [e, h.ck, h.p, h.n, h.s, h.op]
  exact gI (h.acc hne _ _ _ _ _) h.rd _
structure Le (op : Int) (C X Y : Cp) (D E : Dd) : Prop where
 t : D.t = tN ∧ E.t = tN
 x : ((op = 3 ∨ op = 4) ∧ D.rd ≠ 0 → D.v = E.v + 2#64 ∧ { E with v := D.v } = D ∧ ({ Y with x := upd Y.x D.rd.toNat D.v, pc := X.pc } : Cp) = X) ∧ (¬ ((op = 3 ∨ op = 4) ∧ D.rd ≠ 0) → E = D ∧ ({ Y with pc := X.pc } : Cp) = X)
 rd : 0 ≤ D.rd ∧ D.rd < 32
 pc : (X.pc = C.pc + 4#64 ∧ Y.pc = C.pc + 2#64) ∨ X.pc = Y.pc
theorem GR {p : BitVec 64} (h : p &&& ~~~1#64 = p) : (p + 4#64) &&& ~~~1#64 = p + 4#64 ∧ (p + 2#64) &&& ~~~1#64 = p + 2#64 := by
 have h0 : p.getLsbD 0 = false := by
  rw [← h]; simp
 have key : ∀ q : BitVec 64, q.toNat % 2 = 0 → q &&& ~~~1#64 = q := fun q hq => by
  apply BitVec.eq_of_getLsbD_eq
  intro i hi
  rw [BitVec.getLsbD_and, BitVec.getLsbD_not]
  by_cases e : i = 0
  ·subst e
   have : q.getLsbD 0 = false := by
    rw [BitVec.getLsbD, Nat.testBit_zero]; simp [hq]
   rw [this]; rfl
  ·have : (1#64).getLsbD i = false := by
    simp [BitVec.getLsbD_one, e]
   rw [this]; simp [hi]
 have hp : p.toNat % 2 = 0 := by
  rw [BitVec.getLsbD, Nat.testBit_zero] at h0
  simpa using h0
 have := p.isLt
 constructor
 ·apply key; rw [BitVec.toNat_add]; simp only [ZqR]; omega
 ·apply key; rw [BitVec.toNat_add]; simp only [ZqR]; omega
theorem NB (c : Cp) : (PR c).pc &&& ~~~1#64 = (PR c).pc := by
 show c.pc &&& ~~~1#64 &&& ~~~1#64 = c.pc &&& ~~~1#64
 rw [BitVec.and_assoc, BitVec.and_self]
theorem iB4 : iB 4 = 4#64 := by decide
theorem iB2 : iB 2 = 2#64 := by decide
def iL (i : Ins) : Ins := { i with ln := 4 }
def iS (i : Ins) (raw : BitVec 32) : Ins := { i with ln := 2, rw := raw }
theorem ptK_rd {k : Wk} (h : k.d.rd = 0) (v : BitVec 64) : (ptK k v).d.rd = 0 ∨ (ptK k v).d.rd = k.i.rd := by
 unfold ptK
 split
 ·exact .inl h
 ·exact .inr rfl
theorem csB_rd {k : Wk} (h : k.d.rd = 0) (S : St) (z : BitVec 64) : (csB k S z).k.d.rd = 0 ∨ (csB k S z).k.d.rd = k.i.rd := ptK_rd (k := wrK k z) h _
theorem body_rd (V : ZqZ) (S : St) {k : Wk} (h : k.d.rd = 0) : ∀ gr, (aU V S k gr).k.d.rd = 0 ∨ (aU V S k gr).k.d.rd = k.i.rd
 | 0 => ptK_rd h _
 | 1 => ptK_rd h _
 | 2 => ptK_rd h _
 | 3 => ptK_rd h _
 | 4 => by
  unfold aU
  show (if tkB k.i.op (k.p.x k.n) (k.p.x k.m) = true then { k with nx := k.p.pc + iB k.i.im } else k).d.rd = 0 ∨ _
  split <;> exact .inl h
 | 5 => ptK_rd (k := tlK k k.k 1 (adI k) 0#64) h _
 | 6 => ptK_rd (k := tlK k k.k 1 (adI k) 0#64) h _
 | 7 => .inl h
 | 8 => ptK_rd h _
 | 9 => ptK_rd h _
 | 10 => .inl h
 | 11 => .inl h
 | 12 => .inl h
 | 13 => .inl h
 | 14 => .inl h
 | 15 => by
  show (if RK k.k k.i.im = true then csB k S (opV k k.n) else ⟨tS 2 (rB k.i.rw), S, k⟩ : Re).k.d.rd = 0 ∨ (if RK k.k k.i.im = true then csB k S (opV k k.n) else ⟨tS 2 (rB k.i.rw), S, k⟩ : Re).k.d.rd = k.i.rd
  split
  ·exact csB_rd h _ _
  ·exact .inl h
 | 16 => by
  show (if RK k.k k.i.im = true then (if k.i.r1 = 0 then ⟨tN, S, ptK k (rV S k.k k.i.im)⟩ else csB k S (rV S k.k k.i.im ||| opV k k.n)) else ⟨tS 2 (rB k.i.rw), S, k⟩ : Re).k.d.rd = 0 ∨ (if RK k.k k.i.im = true then (if k.i.r1 = 0 then ⟨tN, S, ptK k (rV S k.k k.i.im)⟩ else csB k S (rV S k.k k.i.im ||| opV k k.n)) else ⟨tS 2 (rB k.i.rw), S, k⟩ : Re).k.d.rd = k.i.rd
  split
  ·split
   ·exact ptK_rd h _
   ·exact csB_rd h _ _
  ·exact .inl h
 | 17 => by
  show (if RK k.k k.i.im = true then (if k.i.r1 = 0 then ⟨tN, S, ptK k (rV S k.k k.i.im)⟩ else csB k S (rV S k.k k.i.im &&& ~~~(opV k k.n))) else ⟨tS 2 (rB k.i.rw), S, k⟩ : Re).k.d.rd = 0 ∨ (if RK k.k k.i.im = true then (if k.i.r1 = 0 then ⟨tN, S, ptK k (rV S k.k k.i.im)⟩ else csB k S (rV S k.k k.i.im &&& ~~~(opV k k.n))) else ⟨tS 2 (rB k.i.rw), S, k⟩ : Re).k.d.rd = k.i.rd
  split
  ·split
   ·exact ptK_rd h _
   ·exact csB_rd h _ _
  ·exact .inl h
 | 18 => ptK_rd (k := tlK k (rsK (PR k.k) (mLr S k) (k.p.x k.n) k.s) 1 (k.p.x k.n) 0#64) h _
 | 19 => by
  show (if scB S k = true then ptK (tlK k (scC S k) 2 (k.p.x k.n) (k.p.x k.m)) 0#64 else ptK { k with k := scC S k } 1#64).d.rd = 0 ∨ (if scB S k = true then ptK (tlK k (scC S k) 2 (k.p.x k.n) (k.p.x k.m)) 0#64 else ptK { k with k := scC S k } 1#64).d.rd = k.i.rd
  split
  ·exact ptK_rd (k := tlK k (scC S k) 2 (k.p.x k.n) (k.p.x k.m)) h _
  ·exact ptK_rd (k := { k with k := scC S k }) h _
 | n + 20 => ptK_rd (k := tlK k (stK (PR k.k) (mAm S k) (k.p.x k.n) (dP k.i.op)) 3 (k.p.x k.n) (mAm S k).st) h _
structure Ln (i : Ins) (raw : BitVec 32) (c : Cp) (S : St) (R R' : Re) : Prop where
 is : R'.t.is = R.t.is
 S : R'.S = R.S
 tr : R.t.is = true → (R.t.ca = 2 ∧ R'.t.ca = 2 ∧ R.t.tv = rB i.rw ∧ R'.t.tv = rB raw) ∨ (R.t.ca ≠ 2 ∧ R'.t = R.t)
 no : R.t.is = false → Le i.op (PR c) R.k.k R'.k.k R.k.d R'.k.d
theorem fm_a : ∀ n, n < 36 → (grI n = 2 ∨ grI n = 3) → n = 2 ∨ n = 3 := by decide
theorem fm_b : ∀ n, n < 36 → (((fmG n).1 ≤ 3 ∧ 3 ≤ (fmG n).2.1) ∨ ((fmG n).1 ≤ 4 ∧ 4 ≤ (fmG n).2.1)) → grI n = 2 ∨ grI n = 3 := by decide
theorem fm_c : ∀ n, n < 36 → 20 ≤ grI n → n = 32 ∨ n = 35 := by decide
theorem PD {op : Int} {n : Nat} (hn : n < 36) (h : fmH op n) : (grI n = 2 ∨ grI n = 3) ↔ (op = 3 ∨ op = 4) := by
 constructor
 ·intro e
  rcases fm_a n hn e with rfl | rfl
  ·have q : (3 : Int) ≤ op := h.1
   have q2 : op ≤ (3 : Int) := h.2
   omega
  ·have q : (4 : Int) ≤ op := h.1
   have q2 : op ≤ (4 : Int) := h.2
   omega
 ·intro e
  refine fm_b n hn ?_
  rcases e with rfl | rfl
  ·exact .inl h
  ·exact .inr h
theorem fm_am {op : Int} {n : Nat} (hn : n < 36) (h : fmH op n) (hg : 20 ≤ grI n) : dP op ≠ 0 := by
 unfold dP
 rcases fm_c n hn hg with rfl | rfl
 ·have q : (77 : Int) ≤ op := h.1
  have q2 : op ≤ (85 : Int) := h.2
  rw [if_pos ⟨q, q2⟩]; decide
 ·have q : (88 : Int) ≤ op := h.1
  have q2 : op ≤ (96 : Int) := h.2
  rw [if_neg (by omega), if_pos ⟨q, q2⟩]; decide
theorem GI (V : ZqZ) (S : St) (b b' : Nat) (c : Cp) (i : Ins) (raw : BitVec 32) : Ln i raw c S (dR V S b c (iL i)) (dR V S b' c (iS i raw)) := by
 have e1 : dR V S b c (iL i) = rnM V S (wk0 b (PR c) (iL i)) := rfl
 have e2 : dR V S b' c (iS i raw) = rnM V S (wk0 b' (PR c) (iS i raw)) := rfl
 rw [e1, e2]
 unfold rnM
 have o1 : (wk0 b (PR c) (iL i)).i.op = i.op := rfl
 have o2 : (wk0 b' (PR c) (iS i raw)).i.op = i.op := rfl
 have f1 : ftB (wk0 b (PR c) (iL i)).i = (rgB i.rd && rgB i.r1 && rgB i.r2) := by show (rgB i.rd && rgB i.r1 && rgB i.r2 && (decide ((4 : Int) = 2) || decide ((4 : Int) = 4))) = _; simp
 have f2 : ftB (wk0 b' (PR c) (iS i raw)).i = (rgB i.rd && rgB i.r1 && rgB i.r2) := by show (rgB i.rd && rgB i.r1 && rgB i.r2 && (decide ((2 : Int) = 2) || decide ((2 : Int) = 4))) = _; simp
 rw [o1, o2, f1, f2]
 have ill : Ln i raw c S ⟨tS 2 (rB (wk0 b (PR c) (iL i)).i.rw), S, wk0 b (PR c) (iL i)⟩ ⟨tS 2 (rB (wk0 b' (PR c) (iS i raw)).i.rw), S, wk0 b' (PR c) (iS i raw)⟩ := ⟨rfl, rfl, fun _ => .inl ⟨rfl, rfl, rfl, rfl⟩, fun h => by cases h⟩
 cases hq : fmF i.op with
 | none => exact ill
 | some n =>
  obtain ⟨hn, hop⟩ := pT hq
  simp only
  by_cases ht : (rgB i.rd && rgB i.r1 && rgB i.r2) = true
  ·rw [if_pos ht, if_pos ht]
   have hrd : 0 ≤ i.rd ∧ i.rd < 32 := by
    simp only [rgB, Bool.and_eq_true, decide_eq_true_eq] at ht
    exact ht.1.1
   obtain ⟨k, hk⟩ : ∃ k, k = szK (wk0 b (PR c) (iL i)) n := ⟨_, rfl⟩
   obtain ⟨k', hk'⟩ : ∃ k', k' = szK (wk0 b' (PR c) (iS i raw)) n := ⟨_, rfl⟩
   have hl : Lk k k' := by rw [hk, hk']; exact ⟨rfl, rfl, rfl, rfl, rfl, rfl, rfl, rfl, rfl⟩
   have hdz : k.d = dZ := by rw [hk]; rfl
   have eo : k.i.op = i.op := by rw [hk]; rfl
   have er : k.i.rd = i.rd := by rw [hk]; rfl
   have ew : k.i.rw = i.rw := by rw [hk]; rfl
   have ew' : k'.i.rw = raw := by rw [hk']; rfl
   have ek : k.k = PR c := by rw [hk]; rfl
   have n1 : k.nx = (PR c).pc + 4#64 := by rw [hk]; show (PR c).pc + iB 4 = _; rw [iB4]
   have n2 : k'.nx = (PR c).pc + 2#64 := by rw [hk']; show (PR c).pc + iB 2 = _; rw [iB2]
   rw [← hk, ← hk']
   obtain ⟨a4, a2⟩ := GR (NB c)
   have lk1 := PD hn hop
   by_cases hg : grI n = 2 ∨ grI n = 3
   ·-- links
    have hlk : i.op = 3 ∨ i.op = 4 := lk1.1 hg
    have hb : ∃ nx : BitVec 64, aU V S k (grI n) = ⟨tN, S, { ptK k k.nx with nx := nx }⟩ ∧ aU V S k' (grI n) = ⟨tN, S, { ptK k' k'.nx with nx := nx }⟩ := by
     rcases hg with e | e <;> rw [e]
     ·refine ⟨k.p.pc + iB k.i.im, rfl, ?_⟩
      show (⟨tN, S, { ptK k' k'.nx with nx := k'.p.pc + iB k'.i.im }⟩ : Re) = _
      rw [hl.p, hl.im]
     ·refine ⟨adI k, rfl, ?_⟩
      show (⟨tN, S, { ptK k' k'.nx with nx := adI k' }⟩ : Re) = _
      rw [hl.ad]
    obtain ⟨nx, b1, b2⟩ := hb
    rw [b1, b2]
    refine ⟨rfl, rfl, fun h => (by cases h), fun _ => ?_⟩
    show Le i.op (PR c) { (ptK k k.nx).k with pc := nx &&& ~~~1#64 } { (ptK k' k'.nx).k with pc := nx &&& ~~~1#64 } (ptK k k.nx).d (ptK k' k'.nx).d
    have hd0 : k.d = dZ := hdz
    by_cases h0 : i.rd = 0
    ·have p1 : ptK k k.nx = k := by unfold ptK; rw [if_pos (by rw [er]; exact h0)]
     have p2 : ptK k' k'.nx = k' := by unfold ptK; rw [if_pos (by rw [hl.rd, er]; exact h0)]
     rw [p1, p2, hl.ck, hl.d, hd0]
     exact ⟨⟨rfl, rfl⟩, ⟨fun q => absurd rfl q.2, fun _ => ⟨rfl, rfl⟩⟩, ⟨by decide, by decide⟩, .inr rfl⟩
    ·have p1 : ptK k k.nx = { k with k := { k.k with x := upd k.k.x k.i.rd.toNat k.nx }, d := { k.d with rd := k.i.rd, v := k.nx } } := by unfold ptK; rw [if_neg (by rw [er]; exact h0)]
     have p2 : ptK k' k'.nx = { k' with k := { k'.k with x := upd k'.k.x k'.i.rd.toNat k'.nx }, d := { k'.d with rd := k'.i.rd, v := k'.nx } } := by unfold ptK; rw [if_neg (by rw [hl.rd, er]; exact h0)]
     rw [p1, p2]
     refine ⟨⟨by show k.d.t = tN; rw [hd0]; rfl, by show k'.d.t = tN; rw [hl.d, hd0]; rfl⟩, ⟨fun _ => ⟨?_, ?_, ?_⟩, fun q => absurd ⟨hlk, by show k.i.rd ≠ 0; rw [er]; exact h0⟩ q⟩, by show 0 ≤ k.i.rd ∧ k.i.rd < 32; rw [er]; exact hrd, .inr rfl⟩
     ·show k.nx = k'.nx + 2#64
      rw [n1, n2, BitVec.add_assoc]; rfl
     ·show ({ k'.d with rd := k'.i.rd, v := k.nx } : Dd) = { k.d with rd := k.i.rd, v := k.nx }
      rw [hl.d, hl.rd]
     ·show ({ k'.k with x := upd (upd k'.k.x k'.i.rd.toNat k'.nx) k.i.rd.toNat k.nx, pc := nx &&& ~~~1#64 } : Cp) = { k.k with x := upd k.k.x k.i.rd.toNat k.nx, pc := nx &&& ~~~1#64 }
      have eu : upd (upd k'.k.x k'.i.rd.toNat k'.nx) k.i.rd.toNat k.nx = upd k.k.x k.i.rd.toNat k.nx := by
       rw [hl.ck, hl.rd]
       funext j
       unfold upd
       split <;> rfl
      rw [eu, hl.ck]
   ·-- all others
    have hlk : ¬ (i.op = 3 ∨ i.op = 4) := fun e => hg (lk1.2 e)
    have h20 : 20 ≤ grI n → dP k.i.op ≠ 0 := fun h2 => by rw [eo]; exact fm_am hn hop h2
    have lr := NT V S hl (grI n) (fun e => hg (.inl e)) (fun e => hg (.inr e)) h20
    refine ⟨lr.is, lr.S, fun h => ?_, fun h => ?_⟩
    ·have q := lr.tv h
     rw [ew, ew'] at q
     exact q
    ·have q := body_rd V S (k := k) (by rw [hdz]; rfl) (grI n)
     have qd : (aU V S k (grI n)).k.d.t = tN := by rw [(oT V S k (grI n)).d, hdz]; rfl
     show Le i.op (PR c) { (aU V S k (grI n)).k.k with pc := (aU V S k (grI n)).k.nx &&& ~~~1#64 } { (aU V S k' (grI n)).k.k with pc := (aU V S k' (grI n)).k.nx &&& ~~~1#64 } (aU V S k (grI n)).k.d (aU V S k' (grI n)).k.d
     rw [lr.ck, lr.d]
     refine ⟨⟨qd, qd⟩, ⟨fun w => absurd w.1 hlk, fun _ => ⟨rfl, rfl⟩⟩, ?_, ?_⟩
     ·rcases q with w | w
      ·rw [w]; exact ⟨by decide, by decide⟩
      ·rw [w, er]; exact hrd
     ·rcases lr.nx with w | w
      ·left
       show (aU V S k (grI n)).k.nx &&& ~~~1#64 = _ ∧ (aU V S k' (grI n)).k.nx &&& ~~~1#64 = _
       rw [w.1, w.2, n1, n2]
       exact ⟨a4, a2⟩
      ·right
       show (aU V S k (grI n)).k.nx &&& ~~~1#64 = (aU V S k' (grI n)).k.nx &&& ~~~1#64
       rw [w]
  ·rw [if_neg ht, if_neg ht]; exact ill
end Go.Proofs.YtddlmenfcbjoaaaGreatDoor
