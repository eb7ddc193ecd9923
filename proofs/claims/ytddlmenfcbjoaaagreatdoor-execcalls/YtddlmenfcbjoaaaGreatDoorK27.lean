import Derived.Test.YtddlmenfcbjoaaaGreatDoorK20
import Derived.Test.YtddlmenfcbjoaaaGreatDoorK24
import Derived.Test.YtddlmenfcbjoaaaGreatDoorK11
import Derived.Test.YtddlmenfcbjoaaaGreatDoorK14
import Derived.Test.YtddlmenfcbjoaaaGreatDoorK07
import Derived.Test.YtddlmenfcbjoaaaGreatDoorK08
import Derived.Test.YtddlmenfcbjoaaaGreatDoorK26
import Derived.Deep.RegionHeld3
import Derived.Test.YtddlmenfcbjoaaaGreatDoorK13
namespace Go.Proofs.YtddlmenfcbjoaaaGreatDoor
set_option linter.unusedVariables false
set_option maxRecDepth 100000
set_option maxHeartbeats 8000000
open Go.ChangeShapes Go.WideShapes Go.ChangeAt Go.RowKit Go.Deep _root_.Go.Proofs.Tryz
theorem uP {K : Cp} (h : PR K = K) : PR (nores K) = nores K := by
 have e : PR (nores K) = nores (PR K) := rfl
 rw [e, h]
theorem uQ {K : Cp} (h : PR K = K) {ad : BitVec 64} {sz : Int} (hz : (sz = 4 ∧ ad % 4#64 = 0#64) ∨ (sz = 8 ∧ ad % 8#64 = 0#64)) : PR { K with rv := true, ra := ad, rs := sz } = { K with rv := true, ra := ad, rs := sz } := by
 have hr : rok true ad sz = true := by
  unfold rok
  rcases hz with ⟨rfl, q⟩ | ⟨rfl, q⟩ <;> simp [q]
 have e : PR { K with rv := true, ra := ad, rs := sz } = { PR K with rv := rok true ad sz, ra := if rok true ad sz then ad else 0#64, rs := if rok true ad sz then sz else 0 } := rfl
 rw [e, hr, if_pos rfl, if_pos rfl, h]
theorem BN {S : St} {k : Wy} {z : Nat} {f : Option (BitVec 64 → BitVec 64)} (h : (MV S k z f).t.is = false) : fbd S k z = tN ∧ n64 k.ad % (z : Int) = 0 ∧ thr S k.ra k.r k.ad z = true := by
 have hf : (fbd S k z).is = false := by
  cases f with
  | none =>
   simp only [MV] at h
   split at h
   ·rename_i q; rw [h] at q; cases q
   ·rename_i q; simpa using q
  | some f =>
   simp only [MV] at h
   split at h
   ·rename_i q; rw [h] at q; cases q
   ·rename_i q; simpa using q
 unfold fbd at hf ⊢
 by_cases h1 : n64 k.ad % (z : Int) = 0
 ·rw [if_pos h1] at hf ⊢
  by_cases h2 : ckA (PC k.c) (PA k.a) k.m k.ad z k.r = true ∧ thr S k.ra k.r k.ad z = true
  ·rw [if_pos h2]; exact ⟨rfl, h1, h2.2⟩
  ·rw [if_neg h2] at hf; cases hf
 ·rw [if_neg h1] at hf; cases hf
theorem al_4 {ad : BitVec 64} (h : n64 ad % 4 = 0) : ad % 4#64 = 0#64 := by
 apply ZqT
 unfold n64 at h
 rw [BitVec.toNat_umod]
 show ad.toNat % 4 = 0
 omega
theorem al_8 {ad : BitVec 64} (h : n64 ad % 8 = 0) : ad % 8#64 = 0#64 := by
 apply ZqT
 unfold n64 at h
 rw [BitVec.toNat_umod]
 show ad.toNat % 8 = 0
 omega
theorem tP {S : St} {k : Wy} {z : Nat} (h : ¬ (fbd S k z).is = true) : fbd S k z = tN := by
 unfold fbd at h ⊢
 by_cases h1 : n64 k.ad % (z : Int) = 0
 ·rw [if_pos h1] at h ⊢
  by_cases h2 : ckA (PC k.c) (PA k.a) k.m k.ad z k.r = true ∧ thr S k.ra k.r k.ad z = true
  ·rw [if_pos h2]
  ·rw [if_neg h2] at h; exact absurd rfl h
 ·rw [if_neg h1] at h; exact absurd rfl h
theorem UJ (S : St) (k : Wy) (z : Nat) (f : Option (BitVec 64 → BitVec 64)) : (MV S k z f).t = fbd S k z := by
 by_cases h : (fbd S k z).is = true
 ·cases f with
  | none => simp only [MV]; rw [if_pos h]
  | some f => simp only [MV]; rw [if_pos h]
 ·have e := tP h
  cases f with
  | none => simp only [MV]; rw [if_neg h, e]
  | some f => simp only [MV]; rw [if_neg h, e]
def Trd (S : St) (m : Mv) : Prop := (m.t.is = true → m = ⟨0#64, 0#64, m.t, S⟩) ∧ (m.t.is = false → m.t = tN)
theorem tA (S : St) (k : Wy) (z : Nat) (f : Option (BitVec 64 → BitVec 64)) : Trd S (MV S k z f) := by
 refine ⟨fun h => ?_, fun h => ?_⟩
 ·rw [UJ] at h ⊢
  cases f with
  | none => simp only [MV]; rw [if_pos h]
  | some f => simp only [MV]; rw [if_pos h]
 ·rw [UJ] at h ⊢
  exact tP (by rw [h]; decide)
theorem tF (S : St) (c : Int) (a : BitVec 64) : Trd S ⟨0#64, 0#64, tS c a, S⟩ := ⟨fun _ => rfl, fun h => by cases h⟩
theorem mB (S : St) (k : Wy) (sz : Int) (f : Option (BitVec 64 → BitVec 64)) : Trd S (PL S k sz f) := by
 unfold PL
 split
 ·exact tA _ _ _ _
 split
 ·exact tA _ _ _ _
 split
 ·exact tA _ _ _ _
 split
 ·exact tA _ _ _ _
 exact tF _ _ _
theorem pI (S : St) (k : Wy) (sz : Int) (f : Option (BitVec 64 → BitVec 64)) : Trd S (AT S k sz f) := by
 unfold AT
 split
 ·exact mB _ _ _ _
 exact tF _ _ _
theorem EH (S : St) (K : Cp) (b : Nat) (op : Int) (ad v : BitVec 64) : Trd S (AM S K b op ad v) := by
 unfold AM
 split
 ·exact tF _ _ _
 exact pI _ _ _ _
theorem UH {S : St} {k : Wy} {z : Nat} (hz : cW z) (hr : k.ra = true) : (MV S k z none).S = S := by
 simp only [MV]
 split
 ·rfl
 ·rename_i h
  have q := (cO (k := k) hz (by simpa using h)).2.1 hr
  show mvT S k z = S
  unfold mvT
  split
  ·rfl
  ·simp only [St.ld, q]
theorem UW (K : Cp) (ad : BitVec 64) (sz : Int) : bhK K ad sz = K ∨ bhK K ad sz = nores K := by
 unfold bhK; split
 ·exact .inr rfl
 ·exact .inl rfl
theorem vE (w : World) (d : Nat) (t u : Tp) : Cmp prog w (d + 2) 42 (.agg (tpc t)) (.agg (tpc u)) (t.is = u.is ∧ t.ca = u.ca ∧ t.tv = u.tv ∧ True) := by
 refine Cmp.struct underlying42 (by kernel_rfl) ?_
 refine dN.cons (by decide) (ZqL w (by kernel_rfl) rfl) (ZqL w (by kernel_rfl) rfl) (Cmp.bool underlying4) ?_
 refine dN.cons (by decide) (ZqL w (by kernel_rfl) rfl) (ZqL w (by kernel_rfl) rfl) (Cmp.int underlying22) ?_
 refine dN.cons (by decide) (ZqL w (by kernel_rfl) rfl) (ZqL w (by kernel_rfl) rfl) ((Cmp.int underlying22).iff bV) ?_
 exact dN.nil
section
variable {B : Nat} {w0 : World} {b c g g' : Nat} {L L1 : Lay} {S T S1 : St} {vr vi vo ur ui uo : Value} {w w' : World} {cs cs' : Array Value} {t t' : TypeId}
end
theorem cJ (S : St) (vr vi vo : Value) : (prog.info? 35).map (·.size) = some (stc S vr vi vo).size := by kernel_rfl
end Go.Proofs.YtddlmenfcbjoaaaGreatDoor
namespace Go.Proofs.YtddlmenfcbjoaaaGreatDoor
set_option linter.unusedVariables false
set_option maxRecDepth 100000
set_option maxHeartbeats 8000000
open Go.MuLone Go.ChangeShapes Go.WideShapes Go.ChangeAt Go.RowKit Go.Deep _root_.Go.Proofs.Tryz
structure Ky (w0 : World) (b : Nat) (L : Lay) (S : St) (w : World) : Prop where
 p : PB w0.heap.size L S w
 e : L.b = b
 be : Below w0.heap.size w0 w
structure Ks (w0 : World) (L : Lay) (w : World) (g : Nat) (cs : Array Value) (t : TypeId) : Prop where
 r : Row w g cs t
 n : ¬ L.own g
 ge : w0.heap.size ≤ g
section
variable {w0 : World} {b g g' : Nat} {L L1 : Lay} {S S1 : St} {w w' : World} {cs cs' : Array Value} {t t' : TypeId}
theorem Ky.later (h : Ky w0 b L S w) (hb : Below w.heap.size w w') : Ky w0 b L S w' := ⟨h.p.later hb, h.e, h.be.trans (hb.mono h.be.size)⟩
theorem Ks.later (h : Ks w0 L w g cs t) (hb : Below w.heap.size w w') : Ks w0 L w' g cs t := ⟨h.r.later hb h.r.lt, h.n, h.ge⟩
theorem Ky.step (h : Ky w0 b L S w) (hs : PSt w0.heap.size L w L1 S1 w') : Ky w0 b L1 S1 w' := ⟨hs.p, hs.b.1.trans h.e, h.be.trans (hs.x.below h.be.size (fun k hk => h.p.own_lo k hk))⟩
theorem Ks.step (h : Ks w0 L w g cs t) (hs : PSt w0.heap.size L w L1 S1 w') : Ks w0 L1 w' g cs t :=
 ⟨(hs.x.block g h.r.lt h.n).trans h.r, fun e => by rcases hs.o g e with q | q; exact h.n q; have := h.r.lt; omega, h.ge⟩
theorem Ks.new (h : Ky w0 b L S w) (cs : Array Value) (t : TypeId) : Ks w0 L (w.alloc (.cells cs t)) w.heap.size cs t :=
 ⟨Row.new w cs t, fun e => by have := h.p.own_hi _ e; omega, h.be.size⟩
theorem Ky.lay (h : Ky w0 b L S w) (k : Ks w0 L w g cs t) (o : Nat) : ∀ (l : List Value), Ky w0 b L S (w.setCells g o l) := fun l => by
 have q : ∀ (l : List Value) (o : Nat) {w : World}, Exc (fun j => j = g) w (w.setCells g o l) := fun l => by
  induction l with
  | nil => intro o w; exact ⟨rfl, rfl, rfl, ZqE _, fun _ _ _ => rfl⟩
  | cons v r ih =>
   intro o w
   rw [World.setCells]
   exact (show Exc (fun j => j = g) w (w.setCell ⟨g, o, none⟩ v) from ⟨rfl, rfl, rfl, by simp, fun j hj hne => heap_setCell_other w _ j v hne⟩).trans (ih (o + 1))
 exact ⟨h.p.exo (q l o) (fun j hj e => k.n (e ▸ hj)), h.e, cZ k.ge l o h.be⟩
end
theorem bP {P : Program} {ops : Array Oper} {rest : List Oper} {o : Oper} {a : Act} {w' : World} {Q : Exit → Act → World → Prop} (hgd : o.guard = none) (t : TypeId) (x y : Operand) (ho : o.op = .store t x y) (hd : o.dst = none)
  (w : World) (c c' : Array Value) (hw : w' = w.alloc (.cells c t)) (hx : a.eval x = .pointer (some ⟨w.heap.size, 0, none⟩)) (hy : a.eval y = .agg c') (hi : (P.info? t).map (·.size) = some c'.size) (hs : c.size = c'.size) (h1 : c'.all (·.oneCell') = true)
  (h : wpList P ops Q rest a (w.alloc (.cells c' t))) : wpList P ops Q (o :: rest) a w' := by
 subst hw
 exact aK hgd t x y ho hd c c' hx hy hi hs h1 h
theorem Ky.row {w0 : World} {b g : Nat} {L : Lay} {S : St} {w : World} {cs : Array Value} {t : TypeId} (h : Ky w0 b L S w) (k : Ks w0 L w g cs t) (cs' : Array Value) : Ky w0 b L S (w.setRow g cs') :=
 ⟨h.p.exo (G := fun j => j = g) ⟨rfl, rfl, rfl, by simp, fun j hj hne => setRow_other _ _ _ _ hne⟩ (fun j hj e => k.n (e ▸ hj)), h.e, aW h.be k.ge _⟩
theorem Ks.put {w0 : World} {g : Nat} {L : Lay} {w : World} {cs : Array Value} {t : TypeId} (k : Ks w0 L w g cs t) (cs' : Array Value) : Ks w0 L (w.setRow g cs') g cs' t := ⟨ZqW _ _ _ _ _ _ k.r, k.n, k.ge⟩
theorem Ks.far {w0 : World} {g g' : Nat} {L : Lay} {w : World} {cs : Array Value} {t : TypeId} (k : Ks w0 L w g cs t) (hne : g ≠ g') (cs' : Array Value) : Ks w0 L (w.setRow g' cs') g cs t := ⟨(setRow_other _ _ _ _ hne).trans k.r, k.n, k.ge⟩
theorem OT (w : World) (t : Tp) : (Op.equalIn 10000 42 (.agg (tpc t)) (.agg (tpc t))).run prog w = .ok true w := by
 obtain ⟨r, hr, h⟩ := vE w 9998 t t
 rw [hr, h.2 ⟨rfl, rfl, rfl, trivial⟩]
end Go.Proofs.YtddlmenfcbjoaaaGreatDoor
namespace Go.Proofs.YtddlmenfcbjoaaaGreatDoor
set_option linter.unusedVariables false
set_option maxRecDepth 100000
set_option maxHeartbeats 8000000
open Go.ChangeShapes Go.WideShapes Go.ChangeAt Go.RowKit Go.Deep _root_.Go.Proofs.Tryz
structure Sb (L : Lay) (N : Nat) (S : St) (vr vi vo : Value) (w : World) : Prop where
 b : Bs S vr vi vo w
 n : ∀ v, (v = vr ∨ v = vi ∨ v = vo) → ∀ g off n c, v = .slice (some ⟨g, off, none⟩) n c → ¬ L.own g ∧ g < N
 l : N ≤ w.heap.size
theorem Byt.keeps {w w' : World} {v : Value} {l : List Int} (hs : w.heap.size ≤ w'.heap.size) (hb : Byt w v l) (hk : ∀ g off n c, v = .slice (some ⟨g, off, none⟩) n c → g < w.heap.size → w'.heap[g]? = w.heap[g]?) : Byt w' v l := by
 obtain ⟨a, cap, e1, e2, e3, e4⟩ := hb
 refine ⟨a, cap, e1, e2, e3, fun hl => ?_⟩
 obtain ⟨g, off, ea, q1, q2⟩ := e4 hl
 refine ⟨g, off, ea, ZqS q1 hs, fun j hj => ?_⟩
 rw [World.cell?_of_block (w := w) (w' := w') (a := ⟨g, off + j, none⟩) (hk g off l.length cap (by rw [e1, ea]) q1)]
 exact q2 j hj
section
variable {L L1 : Lay} {B N g : Nat} {S S1 : St} {vr vi vo : Value} {w w' : World}
theorem Sb.keeps (h : Sb L N S vr vi vo w) (hs : w.heap.size ≤ w'.heap.size) (hk : ∀ g, g < N → ¬ L.own g → w'.heap[g]? = w.heap[g]?) : Bs S vr vi vo w' :=
 ⟨Byt.keeps hs h.b.r (fun g off n c e _ => hk g (h.n _ (.inl rfl) g off n c e).2 (h.n _ (.inl rfl) g off n c e).1), Byt.keeps hs h.b.i (fun g off n c e _ => hk g (h.n _ (.inr (.inl rfl)) g off n c e).2 (h.n _ (.inr (.inl rfl)) g off n c e).1), Byt.keeps hs h.b.o (fun g off n c e _ => hk g (h.n _ (.inr (.inr rfl)) g off n c e).2 (h.n _ (.inr (.inr rfl)) g off n c e).1)⟩
theorem Sb.later (h : Sb L N S vr vi vo w) (hb : Below w.heap.size w w') : Sb L N S vr vi vo w' := ⟨h.b.later hb, h.n, ZqO h.l hb.size⟩
theorem Sb.step (h : Sb L N S vr vi vo w) (hs : PSt B L w L1 S1 w') : Sb L1 N S vr vi vo w' :=
 ⟨h.keeps hs.x.size (fun g hg ho => hs.x.block g (ZqS hg h.l) ho), fun v hv g off n c e => ⟨fun ho => by
  rcases hs.o g ho with q | q
  ·exact (h.n v hv g off n c e).1 q
  ·have := (h.n v hv g off n c e).2; have := h.l; omega, (h.n v hv g off n c e).2⟩, ZqO h.l hs.x.size⟩
theorem Sb.row (h : Sb L N S vr vi vo w) (hg : N ≤ g) (cs : Array Value) : Sb L N S vr vi vo (w.setRow g cs) :=
 ⟨h.keeps (by simp) (fun k hk _ => setRow_other _ _ _ _ (by omega)), h.n, by rw [size_setRow]; exact h.l⟩
theorem Sb.new {w1 : World} (hp : PB B L S1 w1) (hb : Below w1.heap.size w1 w) (hs : Sv w1.heap.size S vr vi vo w) : Sb L w.heap.size S vr vi vo w := by
 refine ⟨hs.bs, fun v hv g off n c e => ?_, ZqE _⟩
 have q : w1.heap.size ≤ g ∧ g < w.heap.size := by
  rcases hv with rfl | rfl | rfl
  ·exact mJ hs.r g off n c e
  ·exact mJ hs.i g off n c e
  ·exact mJ hs.o g off n c e
 exact ⟨fun ho => by have := hp.own_hi _ ho; omega, q.2⟩
end
theorem jS {P : Program} {ops : Array Oper} {rest : List Oper} {o : Oper} {a : Act} {w : World} {Q : Exit → Act → World → Prop} (hw : Region.wanted o (yielded ops a.tmps) = true) (ty : TypeId) (x : Operand) (ho : o.op = .load ty x)
  (g off : Nat) (hx : a.eval x = .pointer (some ⟨g, off, none⟩)) (cs : Array Value) (d : TypeDesc) (hc : ∀ j v, cs[j]? = some v → w.cell? ⟨g, off + j, none⟩ = some v)
  (hu : P.underlying ty = some d) (hd : (match d with | .struct _ | .array _ _ => true | _ => false) = true) (hi : (P.info? ty).map (·.size) = some cs.size)
  (h : wpList P ops Q rest (a.put o.dst (.agg cs)) w) : wpList P ops Q (o :: rest) a w :=
 BigFrame.wpList_want hw fun _ hK => by
  unfold Oper.wp execOp
  simp only [ho, hx, Instr.loadAt, Instr.sureAddr, Sem.run_bind, Sem.run_pure, Result.andThen_ok, gA w ty g off cs d hc hu hd hi]
  exact hK _ _ h
theorem eO {P : Program} {ops : Array Oper} {rest : List Oper} {o : Oper} {a : Act} {w : World} {Q : Exit → Act → World → Prop} (hw : Region.wanted o (yielded ops a.tmps) = true) (t : TypeId) (parts : Array (Nat × Operand)) (ho : o.op = .build t parts)
  (cells : Array Value) (hc : P.built t (parts.map fun (i, x) => (i, a.eval x)).toList = some cells)
  (h : wpList P ops Q rest (a.put o.dst (.agg cells)) w) : wpList P ops Q (o :: rest) a w :=
 BigFrame.wpList_want hw fun _ hK => by
  unfold Oper.wp execOp
  simp only [ho, Sem.run_bind, run_build w t _ cells hc, Result.andThen_ok]
  exact hK _ _ h
def zST : St := ⟨[], 0, 0, 0, false, false, 0, 0, 0, 0, false, [], [], 0, 0⟩
theorem nV (w : World) : (zeroValue 35).run prog w = .ok (.agg (stc zST (.slice none 0 0) (.slice none 0 0) (.slice none 0 0))) w := by kernel_rfl
theorem OS (x y : Operand) (u v : Array Value) (w : World) : (eqGuard .neq 31 x y (.agg u) (.agg v)).run prog w = .ok () w := by kernel_rfl
theorem iH {ops : Array Oper} {rest : List Oper} {o : Oper} {a : Act} {w : World} {Q : Exit → Act → World → Prop} (hw : Region.wanted o (yielded ops a.tmps) = true) (t t2 : TypeId) (x y : Operand) (ho : o.op = .binOp .neq t x y t2)
  (u v : Array Value) (hx : a.eval x = .agg u) (hy : a.eval y = .agg v) (he : (Op.equalIn 10000 t (.agg u) (.agg v)).run prog w = .ok true w) (hg : (eqGuard .neq t x y (.agg u) (.agg v)).run prog w = .ok () w)
  (h : wpList prog ops Q rest (a.put o.dst (.bool false)) w) : wpList prog ops Q (o :: rest) a w :=
 BigFrame.wpList_want hw fun _ hK => by
  unfold Oper.wp execOp
  simp only [ho, hx, hy]
  go_simp
  exact hK _ _ h
def quS (S : St) : St := { S with ram := [], inp := [], ov := false }
theorem tel_q (S : St) (r : Nat) : (S.tel r).2.ram = S.ram ∧ quS (S.tel r).2 = quS S := by
 unfold St.tel
 split
 ·split <;> exact ⟨rfl, rfl⟩
 all_goals exact ⟨rfl, rfl⟩
theorem ld_q (S : St) (a z : Int) : (S.ld a z).2.ram = S.ram ∧ quS (S.ld a z).2 = quS S := by
 unfold St.ld
 split
 case h_2 => exact tel_q _ _
 all_goals exact ⟨rfl, rfl⟩
theorem RS (S : St) (r : Nat) (v : Int) : (S.tak r v).ram = S.ram := by
 unfold St.tak
 split
 ·unfold St.sen; split <;> rfl
 ·rfl
 ·split <;> rfl
 all_goals rfl
theorem OX (S : St) (v : Int) : (S.fin v).ram = S.ram := by
 unfold St.fin
 split
 ·split
  ·rfl
  ·split <;> rfl
 ·rfl
theorem LH {S : St} {a z : Int} (v : Int) (h : ¬ fnd S.ram.length a z = 0) : (S.sto2 a z v).2.ram = S.ram := by
 unfold St.sto2
 split
 ·rename_i q; exact absurd q h
 ·exact RS _ _ _
 ·rfl
 ·rfl
 ·rfl
 ·exact OX _ _
 ·rfl
theorem LG {S : St} {a z : Int} (v : Int) (h : fnd S.ram.length a z = 0) : (S.sto2 a z v).2 = S.put (a - 2147483648).toNat z.toNat v.toNat := by
 simp only [St.sto2, h]
theorem PG {n : Nat} {a z : Int} (h : jC n a z = true) (hz : 0 < z) : 2147483648 ≤ a ∧ (a - 2147483648) + z ≤ n := by
 unfold jC hld at h
 simp only [Bool.and_eq_true, decide_eq_true_eq] at h
 omega
theorem fnd_0 {n : Nat} {a z : Int} (h : fnd n a z = 0) : jC n a z = true := by
 unfold fnd at h
 by_cases q : jC n a z = true
 ·exact q
 ·rw [if_neg q] at h
  repeat' split at h
  all_goals exfalso; omega
end Go.Proofs.YtddlmenfcbjoaaaGreatDoor
