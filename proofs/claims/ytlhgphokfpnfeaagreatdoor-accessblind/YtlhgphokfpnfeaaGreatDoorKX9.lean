import Derived.Test.YtlhgphokfpnfeaaGreatDoorK32
import Derived.Test.YtlhgphokfpnfeaaGreatDoorKX4
import Derived.Test.YtlhgphokfpnfeaaGreatDoorKX8
import Derived.Test.YtlhgphokfpnfeaaGreatDoorKX6
namespace Go.Proofs.YtlhgphokfpnfeaaGreatDoor
set_option linter.unusedVariables false
open Go.ChangeShapes Go.WideShapes Go.ChangeAt Go.RowKit Go.Deep
section
variable {w0 : World} {b d g g' : Nat} {L M : Lay} {S T : St} {w w' : World} {cs : Array Value} {t : TypeId}
theorem Kz.row (h : Kz w0 b d L M S T w) (k : Kt w0 L M w g cs t) (cs' : Array Value) : Kz w0 b d L M S T (w.setRow g cs') := ⟨h.l.row k.ks cs', h.m.row k.symm.ks cs', h.ap⟩
theorem Kt.put (k : Kt w0 L M w g cs t) (cs' : Array Value) : Kt w0 L M (w.setRow g cs') g cs' t := ⟨setRow_heap _ _ _ _ _ _ k.r, k.n, k.o, k.ge⟩
theorem Kt.far (k : Kt w0 L M w g cs t) (hne : g ≠ g') (cs' : Array Value) : Kt w0 L M (w.setRow g' cs') g cs t := ⟨(setRow_other _ _ _ _ hne).trans k.r, k.n, k.o, k.ge⟩
end
/-- A told state whose RAM is changed in place. -/
structure Xr (w0 : World) (b : Nat) (L : Lay) (S : St) (gc : Nat) (K : Cp) (gs M g cap : Nat) (i o : Value) (l : List Int) (w : World) : Prop where
  k : Ky w0 b L S w
  c : Ks w0 L w gc (cpc K) 31
  s : Ks w0 L w gs (stc S (.slice (some ⟨g, 0, none⟩) S.ram.length cap) i o) 35
  r : w.ownsRow M 5 1 (.slice (some ⟨g, 0, none⟩) S.ram.length cap) S.ram.length (bv l)
  bi : Byt w i S.inp
  bo : Byt w o S.out
  oM : ∀ k, L.own k → k < M
  hc : gc < M
  hs : g < gs
  hio : ∀ v, (v = i ∨ v = o) → ∀ g' off n c, v = .slice (some ⟨g', off, none⟩) n c → g' ≠ g
  le : w0.heap.size ≤ M
section
variable {w0 : World} {b : Nat} {L : Lay} {S : St} {gc : Nat} {K : Cp} {gs M g cap : Nat} {i o : Value} {l : List Int} {w w' : World}
theorem Xr.later (h : Xr w0 b L S gc K gs M g cap i o l w) (hb : Below w.heap.size w w') : Xr w0 b L S gc K gs M g cap i o l w' :=
  ⟨h.k.later hb, h.c.later hb, h.s.later hb, own_later h.r hb rfl, h.bi.later hb rfl, h.bo.later hb rfl, h.oM, h.hc, h.hs, h.hio, h.le⟩
theorem Xr.put (h : Xr w0 b L S gc K gs M g cap i o l w) (j : Nat) (hj : j < S.ram.length) (x : Int) : Xr w0 b L S gc K gs M g cap i o (l.set j x) (w.setCell ⟨g, j, none⟩ (.int .u8 x)) := by
  have hx : Exc (fun k => k = g) w (w.setCell ⟨g, j, none⟩ (.int .u8 x)) := (Exc.refl _ w).set g j _ rfl
  have hg : M ≤ g ∧ g < w.heap.size := h.r.lt g rfl
  have hle := h.le
  refine ⟨⟨h.k.p.exo hx (fun k hk e => ?_), h.k.e, h.k.be.trans (hx.below h.k.be.size (fun k e => ?_))⟩, ⟨?_, h.c.n, h.c.ge⟩, ⟨?_, h.s.n, h.s.ge⟩, own_put h.r j hj x, ?_, ?_, h.oM, h.hc, h.hs, h.hio, h.le⟩
  · have := h.oM k hk; omega
  · omega
  · have hc := h.hc
    exact (hx.block gc h.c.r.lt (by omega)).trans h.c.r
  · have hs := h.hs
    exact (hx.block gs h.s.r.lt (by omega)).trans h.s.r
  · exact Byt.keeps hx.size h.bi (fun g' off n c e hlt => hx.block g' hlt (h.hio _ (.inl rfl) g' off n c e))
  · exact Byt.keeps hx.size h.bo (fun g' off n c e hlt => hx.block g' hlt (h.hio _ (.inr rfl) g' off n c e))
end
/-- What has become of the bytes. -/
structure Agl (K : Cp) (S : St) (l : List Int) : Prop where
  a : Ag K S l
  b : AllB l
theorem Agl.set {K : Cp} {S : St} {l : List Int} (h : Agl K S l) {k : Nat} (hg : grA (PC K.c) (PA K.a) (2147483648#64 + BitVec.ofNat 64 k) 5 = false) {x : Int} (hx : 0 ≤ x ∧ x ≤ 255) : Agl K S (l.set k x) := by
  refine ⟨⟨by rw [List.length_set]; exact h.a.len, fun j hj hgj => ?_⟩, fun y hy => ?_⟩
  · have hne : ¬ k = j := fun e => by rw [e, hgj] at hg; cases hg
    have q := h.a.at' j hj hgj
    rw [List.getD_eq_getElem?_getD, List.getElem?_set_ne hne, ← List.getD_eq_getElem?_getD]
    exact q
  · rcases List.mem_or_eq_of_mem_set hy with q | q
    · exact h.b y q
    · subst q; exact hx
theorem Agl.sok {K : Cp} {S : St} {l : List Int} (h : Agl K S l) (hs : Sok S) : Sok (rmS S l) := by
  refine ⟨?_, { hs.st with r := h.b }⟩
  have e : (rmS S l).ok = S.ok := by
    unfold St.ok
    rw [show (rmS S l).ram.length = S.ram.length from h.a.len]
    rfl
  rw [e]; exact hs.ok
/-- A state's lists in memory, between two places. -/
structure Bz (lo hi : Nat) (S : St) (vr vi vo : Value) (w : World) : Prop where
  b : Bs S vr vi vo w
  n : ∀ v, (v = vr ∨ v = vi ∨ v = vo) → ∀ g off n c, v = .slice (some ⟨g, off, none⟩) n c → lo ≤ g ∧ g < hi
theorem Bz.later {lo hi : Nat} {S : St} {vr vi vo : Value} {w w' : World} (h : Bz lo hi S vr vi vo w) (hb : Below w.heap.size w w') : Bz lo hi S vr vi vo w' := ⟨h.b.later hb, h.n⟩
theorem Bz.new {B : Nat} {S : St} {vr vi vo : Value} {w : World} (hs : Sv B S vr vi vo w) : Bz B w.heap.size S vr vi vo w := by
  refine ⟨hs.bs, fun v hv g off n c e => ?_⟩
  rcases hv with rfl | rfl | rfl
  · exact own_byt_ge hs.r g off n c e
  · exact own_byt_ge hs.i g off n c e
  · exact own_byt_ge hs.o g off n c e
theorem Bz.lay {lo hi g : Nat} {S : St} {vr vi vo : Value} {w : World} (h : Bz lo hi S vr vi vo w) (hg : g < lo ∨ hi ≤ g) (o : Nat) (l : List Value) : Bz lo hi S vr vi vo (w.setCells g o l) := by
  have q : ∀ (l : List Value) (o : Nat) {w : World}, Exc (fun j => j = g) w (w.setCells g o l) := fun l => by
    induction l with
    | nil => intro o w; exact ⟨rfl, rfl, rfl, Nat.le_refl _, fun _ _ _ => rfl⟩
    | cons v r ih =>
      intro o w
      rw [World.setCells]
      exact (show Exc (fun j => j = g) w (w.setCell ⟨g, o, none⟩ v) from ⟨rfl, rfl, rfl, by simp, fun j hj hne => heap_setCell_other w _ j v hne⟩).trans (ih (o + 1))
  have e := q l o (w := w)
  have k : ∀ v, (v = vr ∨ v = vi ∨ v = vo) → ∀ g' off n c, v = .slice (some ⟨g', off, none⟩) n c → g' < w.heap.size → (w.setCells g o l).heap[g']? = w.heap[g']? := fun v hv g' off n c ev hlt => e.block g' hlt (fun q => by have := h.n v hv g' off n c ev; omega)
  exact ⟨⟨Byt.keeps e.size h.b.r (k _ (.inl rfl)), Byt.keeps e.size h.b.i (k _ (.inr (.inl rfl))), Byt.keeps e.size h.b.o (k _ (.inr (.inr rfl)))⟩, h.n⟩
/-- Both buses and the Cpu between two acts. -/
def Blv (w0 : World) (b d gc : Nat) (K0 : Cp) (w : World) : Prop := ∃ K1 L M S l, Kz w0 b d L M S (rmS S l) w ∧ Sok S ∧ Sok (rmS S l) ∧ Ag K0 S l ∧ Kt w0 L M w gc (cpc K1) 31 ∧ Cst K0 K1
theorem Ag.cst {K0 K1 : Cp} {S : St} {l : List Int} (h : Ag K0 S l) (e : Cst K0 K1) : Ag K1 S l := by
  obtain ⟨v, a, s, q⟩ := e.e
  rw [q]; exact ⟨h.len, h.at'⟩
theorem Ag.tsc {K0 K1 : Cp} {S : St} {l : List Int} (h : Ag K1 S l) (e : Cst K0 K1) : Ag K0 S l := by
  obtain ⟨v, a, s, q⟩ := e.e
  rw [q] at h; exact ⟨h.len, h.at'⟩
theorem eqG_out (x y : Operand) (u v : Array Value) (w : World) : (eqGuard .neq 52 x y (.agg u) (.agg v)).run Tryz.prog w = .ok () w := by kernel_rfl
/-- The same but for RAM: alike without it. -/
theorem stc_rm (S : St) (l : List Int) (r i o : Value) : stc (rmS S l) r i o = stc S r i o := rfl
end Go.Proofs.YtlhgphokfpnfeaaGreatDoor
