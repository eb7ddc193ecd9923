import Derived.Test.YtddlmenfcbjoaaaGreatDoorK28
import Derived.Test.YtddlmenfcbjoaaaGreatDoorK35
import Derived.Test.YtddlmenfcbjoaaaGreatDoorK43
namespace Go.Proofs.YtddlmenfcbjoaaaGreatDoor
set_option linter.unusedVariables false
set_option maxRecDepth 100000
set_option maxHeartbeats 8000000
open Go.MuLone Go.ChangeShapes Go.WideShapes Go.ChangeAt Go.RowKit Go.Deep _root_.Go.Proofs.Tryz
theorem rw_n6 (raw : BitVec 32) : IntKind.u64.wrap (n32 raw) = n64 (rB raw) := by
 rw [dM]; unfold n64 rB n32; congr 1; rw [BitVec.toNat_setWidth, BitVec.ofInt_natCast, ZqR]
structure Lsm (i : Ins) (raw : BitVec 32) (P X Y : Cp) (D E : Dd) : Prop where
 is : E.t.is = D.t.is
 ca : E.t.ca = D.t.ca
 tr : D.t.is = true → X = P ∧ Y = P ∧ ((D.t.ca = 2 ∧ D.t.tv = rB i.rw ∧ E.t.tv = rB raw) ∨ (D.t.ca ≠ 2 ∧ E = D))
 no : D.t.is = false → Le i.op P X Y D E
theorem VV (V : ZqZ) (S : St) (b b' : Nat) (c : Cp) (i : Ins) (raw : BitVec 32) : Lsm i raw (PR c) (dC (dR V S b c (iL i)) c) (dC (dR V S b' c (iS i raw)) c) (dD (dR V S b c (iL i))) (dD (dR V S b' c (iS i raw))) := by
 have h := GI V S b b' c i raw
 cases ht : (dR V S b c (iL i)).t.is with
 | true =>
  have ht' : (dR V S b' c (iS i raw)).t.is = true := h.is.trans ht
  obtain ⟨_, e2, e3, _⟩ := oY ht
  obtain ⟨_, f2, f3, _⟩ := oY ht'
  rw [e2, e3, f2, f3]
  rcases h.tr ht with ⟨q1, q2, q3, q4⟩ | ⟨q1, q2⟩
  ·exact ⟨rfl, q2.trans q1.symm, fun _ => ⟨rfl, rfl, .inl ⟨q1, q3, q4⟩⟩, fun q => by cases q⟩
  ·rw [q2]
   exact ⟨rfl, rfl, fun _ => ⟨rfl, rfl, .inr ⟨q1, rfl⟩⟩, fun q => by cases q⟩
 | false =>
  have ht' : (dR V S b' c (iS i raw)).t.is = false := h.is.trans ht
  obtain ⟨e1, e2, e3⟩ := oV ht
  obtain ⟨f1, f2, f3⟩ := oV ht'
  rw [e1, e2, f1, f2]
  refine ⟨by rw [e3, f3], by rw [e3, f3], fun q => ?_, fun _ => h.no ht⟩
  rw [e3] at q; cases q
theorem ON (V : ZqZ) (S : St) (b b' : Nat) (c : Cp) (i : Ins) (raw : BitVec 32) : (dR V S b' c (iS i raw)).S = (dR V S b c (iL i)).S := (GI V S b b' c i raw).S
section
variable {w0 : World} {b d g : Nat} {L M L1 M1 : Lay} {S T S1 T1 : St} {w w' : World} {cs : Array Value} {t : TypeId}
theorem Kz.row (h : Kz w0 b d L M S T w) (k : Kt w0 L M w g cs t) (cs' : Array Value) : Kz w0 b d L M S T (w.setRow g cs') := ⟨h.l.row k.ks cs', h.m.row k.symm.ks cs', h.ap⟩
theorem Kt.put (k : Kt w0 L M w g cs t) (cs' : Array Value) : Kt w0 L M (w.setRow g cs') g cs' t := ⟨ZqW _ _ _ _ _ _ k.r, k.n, k.o, k.ge⟩
theorem Kt.far (k : Kt w0 L M w g cs t) {g' : Nat} (hne : g ≠ g') (cs' : Array Value) : Kt w0 L M (w.setRow g' cs') g cs t := ⟨(setRow_other _ _ _ _ hne).trans k.r, k.n, k.o, k.ge⟩
theorem kK (h : Kz w0 b d L M S T w) (a a' e e' : Array Value) (t t' : TypeId) :
  Kz w0 b d L M S T ((((w.alloc (.cells a t)).alloc (.cells e t')).setRow w.heap.size a').setRow (w.heap.size + 1) e') ∧ Kt w0 L M ((((w.alloc (.cells a t)).alloc (.cells e t')).setRow w.heap.size a').setRow (w.heap.size + 1) e') w.heap.size a' t ∧ Kt w0 L M ((((w.alloc (.cells a t)).alloc (.cells e t')).setRow w.heap.size a').setRow (w.heap.size + 1) e') (w.heap.size + 1) e' t'
  ∧ (∀ g cs u, Kt w0 L M w g cs u → Kt w0 L M ((((w.alloc (.cells a t)).alloc (.cells e t')).setRow w.heap.size a').setRow (w.heap.size + 1) e') g cs u) := by
 have h1 := h.later (aG w (.cells a t))
 have k1 := Kt.new h a t
 have h2 := h1.later (aG _ (.cells e t'))
 have k1' := k1.later (aG _ (.cells e t'))
 have k2 : Kt w0 L M ((w.alloc (.cells a t)).alloc (.cells e t')) (w.heap.size + 1) e t' := by have q := Kt.new h1 e t'; simpa using q
 have h3 := h2.row k1' a'
 have k2' := k2.far (show w.heap.size + 1 ≠ w.heap.size by omega) a'
 refine ⟨h3.row k2' e', (k1'.put a').far (by omega) e', k2'.put e', fun g cs u hk => ?_⟩
 have hlt := hk.r.lt
 exact (((hk.later (aG _ _)).later (aG _ _)).far (by omega) a').far (by omega) e'
theorem Kz.mk2 {w1 w2 : World} (h : Ky w0 L.b L S w1) (hp : PB w1.heap.size M T w2) (hb : Below w1.heap.size w1 w2) : Kz w0 L.b M.b L M S T w2 :=
 ⟨h.later hb, ⟨hp.le h.be.size, rfl, (h.later hb).be⟩, fun k hk hm => by have := h.p.own_hi k hk; have := hp.own_lo k hm; omega⟩
end
theorem PK (op : Int) (t : Bool) (ht : t = decide (op = 3 ∨ op = 4)) (w : World) : Calls prog 17 #[.int .i64 op] w fun e w' => e = .returned (.bool t) ∧ w' = w := by
 have HTT := Hid.mk' ht
 clear ht
 by_cases h3 : op = 3
 ·have HT : Hid (t = true) := by unfold Hid; rw [HTT.out]; simp [h3]
  have e3 : (op == 3) = true := by rw [h3]; rfl
  clear HTT h3
  go_enter func17, ntmps17
  go_wp2
  go_ret
  exact ⟨by rw [HT.out]; rfl, rfl⟩
 ·have e3 : (op == 3) = false := by rw [beq_eq_false_iff_ne]; exact h3
  have HT : Hid (t = (op == 4)) := by
   unfold Hid; rw [HTT.out]
   by_cases h4 : op = 4
   ·rw [h4]; rfl
   ·rw [beq_eq_false_iff_ne.2 h4]; simp [h3, h4]
  clear HTT h3
  generalize hq : (op == 4) = q at HT
  go_enter func17, ntmps17
  go_wp2
  go_ret
  exact ⟨by rw [HT.out]; rfl, rfl⟩
end Go.Proofs.YtddlmenfcbjoaaaGreatDoor
