import Derived.Test.YtlhgphokfpnfeaaGreatDoorK28
import Derived.Test.YtlhgphokfpnfeaaGreatDoorK30
namespace Go.Proofs.YtlhgphokfpnfeaaGreatDoor
set_option linter.unusedVariables false
open Go.ChangeShapes Go.WideShapes Go.ChangeAt Go.RowKit Go.Deep
/-- Two buses of the program, apart. -/
structure Kz (w0 : World) (b d : Nat) (L M : Lay) (S T : St) (w : World) : Prop where
  l : Ky w0 b L S w
  m : Ky w0 d M T w
  ap : ∀ k, L.own k → ¬ M.own k
/-- A row that stays beside both. -/
structure Kt (w0 : World) (L M : Lay) (w : World) (g : Nat) (cs : Array Value) (t : TypeId) : Prop where
  r : Row w g cs t
  n : ¬ L.own g
  o : ¬ M.own g
  ge : w0.heap.size ≤ g
section
variable {w0 : World} {b d g g' : Nat} {L M L1 M1 : Lay} {S T S1 T1 : St} {w w' : World} {cs cs' : Array Value} {t t' : TypeId}
theorem Kz.symm (h : Kz w0 b d L M S T w) : Kz w0 d b M L T S w := ⟨h.m, h.l, fun k hk hl => h.ap k hl hk⟩
theorem Kt.symm (h : Kt w0 L M w g cs t) : Kt w0 M L w g cs t := ⟨h.r, h.o, h.n, h.ge⟩
theorem Kt.ks (h : Kt w0 L M w g cs t) : Ks w0 L w g cs t := ⟨h.r, h.n, h.ge⟩
theorem Kz.later (h : Kz w0 b d L M S T w) (hb : Below w.heap.size w w') : Kz w0 b d L M S T w' := ⟨h.l.later hb, h.m.later hb, h.ap⟩
theorem Kt.later (h : Kt w0 L M w g cs t) (hb : Below w.heap.size w w') : Kt w0 L M w' g cs t := ⟨h.r.later hb h.r.lt, h.n, h.o, h.ge⟩
theorem Kz.stepL (h : Kz w0 b d L M S T w) (hs : PSt w0.heap.size L w L1 S1 w') : Kz w0 b d L1 M S1 T w' :=
  ⟨h.l.step hs, ⟨h.m.p.exo hs.x (fun k hk hG => h.ap k hG hk), h.m.e, (h.l.step hs).be⟩, fun k hk hm => by
    rcases hs.o k hk with q | q
    · exact h.ap k q hm
    · have := h.m.p.own_hi k hm; omega⟩
theorem Kz.stepM (h : Kz w0 b d L M S T w) (hs : PSt w0.heap.size M w M1 T1 w') : Kz w0 b d L M1 S T1 w' := (h.symm.stepL hs).symm
theorem Kt.stepL (h : Kt w0 L M w g cs t) (hs : PSt w0.heap.size L w L1 S1 w') : Kt w0 L1 M w' g cs t :=
  ⟨(hs.x.block g h.r.lt h.n).trans h.r, fun e => by rcases hs.o g e with q | q; exact h.n q; have := h.r.lt; omega, h.o, h.ge⟩
theorem Kt.stepM (h : Kt w0 L M w g cs t) (hs : PSt w0.heap.size M w M1 T1 w') : Kt w0 L M1 w' g cs t := (h.symm.stepL hs).symm
theorem Kt.new (h : Kz w0 b d L M S T w) (cs : Array Value) (t : TypeId) : Kt w0 L M (w.alloc (.cells cs t)) w.heap.size cs t :=
  ⟨Row.new w cs t, fun e => by have := h.l.p.own_hi _ e; omega, fun e => by have := h.m.p.own_hi _ e; omega, h.l.be.size⟩
theorem Kz.lay (h : Kz w0 b d L M S T w) (k : Kt w0 L M w g cs t) (o : Nat) (l : List Value) : Kz w0 b d L M S T (w.setCells g o l) := ⟨h.l.lay k.ks o l, h.m.lay k.symm.ks o l, h.ap⟩
theorem Kt.lays (k : Kt w0 L M w g cs t) (hne : g ≠ g') (l : List Value) (o : Nat) : Kt w0 L M (w.setCells g' o l) g cs t := ⟨k.r.lays hne l o, k.n, k.o, k.ge⟩
theorem Kt.lay (k : Kt w0 L M w g cs t) (l : List Value) (o : Nat) : Kt w0 L M (w.setCells g o l) g (layC cs o l) t := ⟨k.r.lay l o, k.n, k.o, k.ge⟩
theorem Kt.eqs (k : Kt w0 L M w g cs t) (e : cs = cs') : Kt w0 L M w g cs' t := e ▸ k
end
/-- What an access asks of a Cpu. -/
structure Wys (K U : Cp) : Prop where
  e : xE (PR K) = xE (PR U)
  c : K.c = U.c
  a : K.a = U.a
  rv : K.rv = U.rv
  ra : K.ra = U.ra
  rs : K.rs = U.rs
section
variable {K U : Cp}
theorem Wys.wL (h : Wys K U) (ad : BitVec 64) : wL 0 (PR K) ad = wL 0 (PR U) ad := by
  have h1 : (PR K).c = (PR U).c := by show PC K.c = PC U.c; rw [h.c]
  have h2 : (PR K).a = (PR U).a := by show PA K.a = PA U.a; rw [h.a]
  unfold Go.Proofs.YtlhgphokfpnfeaaGreatDoor.wL
  rw [h1, h2, h.e]
theorem Wys.wS (h : Wys K U) (ad : BitVec 64) : wS 0 (PR K) ad = wS 0 (PR U) ad := by
  have h1 : (PR K).c = (PR U).c := by show PC K.c = PC U.c; rw [h.c]
  have h2 : (PR K).a = (PR U).a := by show PA K.a = PA U.a; rw [h.a]
  unfold Go.Proofs.YtlhgphokfpnfeaaGreatDoor.wS
  rw [h1, h2, h.e]
/-- The same reservation. -/
def reE (K U : Cp) : Prop := K.rv = U.rv ∧ K.ra = U.ra ∧ K.rs = U.rs
theorem Wys.re (h : Wys K U) : reE (PR K) (PR U) := by
  refine ⟨?_, ?_, ?_⟩
  · show rok K.rv K.ra K.rs = rok U.rv U.ra U.rs; rw [h.rv, h.ra, h.rs]
  · show (if rok K.rv K.ra K.rs then K.ra else 0#64) = (if rok U.rv U.ra U.rs then U.ra else 0#64); rw [h.rv, h.ra, h.rs]
  · show (if rok K.rv K.ra K.rs then K.rs else 0) = (if rok U.rv U.ra U.rs then U.rs else 0); rw [h.rv, h.ra, h.rs]
theorem reE.bhK (h : reE K U) (ad : BitVec 64) (sz : Int) : reE (bhK K ad sz) (bhK U ad sz) := by
  unfold Go.Proofs.YtlhgphokfpnfeaaGreatDoor.bhK
  rw [h.2.1, h.2.2]
  split
  · exact ⟨rfl, rfl, rfl⟩
  · exact h
theorem reE.stK (h : reE K U) (m : Mv) (ad : BitVec 64) (sz : Int) : reE (stK K m ad sz) (stK U m ad sz) := by
  unfold Go.Proofs.YtlhgphokfpnfeaaGreatDoor.stK
  split
  · exact h
  · exact h.bhK ad sz
theorem reE.rsK (h : reE K U) (m : Mv) (ad : BitVec 64) (sz : Int) : reE (rsK K m ad sz) (rsK U m ad sz) := by
  unfold Go.Proofs.YtlhgphokfpnfeaaGreatDoor.rsK
  split
  · exact h
  · exact ⟨rfl, rfl, rfl⟩
theorem reE.hel (h : reE K U) (ad : BitVec 64) (sz : Int) : hel K ad sz = hel U ad sz := by
  unfold Go.Proofs.YtlhgphokfpnfeaaGreatDoor.hel
  rw [h.1, h.2.1, h.2.2]
/-- Everything but a fetch answers and changes the same. -/
theorem Wys.same (h : Wys K U) (S : St) (y : Acd) (h1 : ¬ y.kd = 1) : (DO S K y).1.A = (DO S U y).1.A ∧ (DO S K y).1.B = (DO S U y).1.B ∧ (DO S K y).1.ok = (DO S U y).1.ok ∧ (DO S K y).1.t = (DO S U y).1.t ∧ reE (DO S K y).1.K (DO S U y).1.K ∧ (DO S K y).2 = (DO S U y).2 := by
  have r0 : reE K U := ⟨h.rv, h.ra, h.rs⟩
  have eM : AM S (PR K) 0 y.op y.ad y.v = AM S (PR U) 0 y.op y.ad y.v := by unfold AM; rw [h.wS]
  unfold DO
  rw [if_neg h1, if_neg h1]
  by_cases h2 : y.kd = 2
  · rw [if_pos h2, if_pos h2, h.wL]; exact ⟨rfl, rfl, rfl, rfl, r0, rfl⟩
  rw [if_neg h2, if_neg h2]
  by_cases h3 : y.kd = 3
  · rw [if_pos h3, if_pos h3, h.wS]; exact ⟨rfl, rfl, rfl, rfl, h.re.stK _ _ _, rfl⟩
  rw [if_neg h3, if_neg h3]
  by_cases h4 : y.kd = 4
  · rw [if_pos h4, if_pos h4, h.wL]; exact ⟨rfl, rfl, rfl, rfl, h.re.rsK _ _ _, rfl⟩
  rw [if_neg h4, if_neg h4]
  by_cases h5 : y.kd = 5
  · rw [if_pos h5, if_pos h5, h.wS, h.re.hel]
    refine ⟨rfl, rfl, rfl, rfl, ?_, rfl⟩
    by_cases q : (AT S (Go.Proofs.YtlhgphokfpnfeaaGreatDoor.wS 0 (PR U) y.ad) y.sz (if Go.Proofs.YtlhgphokfpnfeaaGreatDoor.hel (PR U) y.ad y.sz = true then some (fun _ => y.v) else none)).t.is = true
    · simp only [if_pos q]; exact h.re
    · simp only [if_neg q]; exact ⟨rfl, rfl, rfl⟩
  rw [if_neg h5, if_neg h5]
  by_cases h6 : y.kd = 6
  · rw [if_pos h6, if_pos h6, eM]; exact ⟨rfl, rfl, rfl, rfl, h.re.stK _ _ _, rfl⟩
  rw [if_neg h6, if_neg h6]
  by_cases h7 : y.kd = 7
  · rw [if_pos h7, if_pos h7]; exact ⟨rfl, rfl, rfl, rfl, r0, rfl⟩
  rw [if_neg h7, if_neg h7]
  exact ⟨rfl, rfl, rfl, rfl, r0, rfl⟩
/-- A fetch asks the mode alone. -/
theorem fetch_same (S : St) (y : Acd) (h1 : y.kd = 1) (hm : (PR K).md = (PR U).md) (hc : K.c = U.c) (ha : K.a = U.a) : (DO S K y).1.A = (DO S U y).1.A ∧ (DO S K y).1.N = (DO S U y).1.N ∧ (DO S K y).1.t = (DO S U y).1.t ∧ (DO S K y).2 = S := by
  have e : ∀ ad, wF 0 (PR { K with pc := y.ad }) ad = wF 0 (PR { U with pc := y.ad }) ad := fun ad => by
    unfold wF
    show (⟨0, PC K.c, PA K.a, (PR K).md, ad, 4, true, 0, 1⟩ : Wy) = ⟨0, PC U.c, PA U.a, (PR U).md, ad, 4, true, 0, 1⟩
    rw [hc, ha, hm]
  have f : FT S (PR { K with pc := y.ad }) 0 = FT S (PR { U with pc := y.ad }) 0 := by
    unfold FT
    rw [e, show (PR { K with pc := y.ad }).pc = (PR { U with pc := y.ad }).pc from rfl, e]
  unfold DO
  rw [if_pos h1, if_pos h1]
  refine ⟨?_, ?_, ?_, FT_S _ _ _⟩
  · show (FT S (PR { K with pc := y.ad }) 0).raw = _; rw [f]
  · show (FT S (PR { K with pc := y.ad }) 0).n = _; rw [f]
  · show (FT S (PR { K with pc := y.ad }) 0).t = _; rw [f]
end
end Go.Proofs.YtlhgphokfpnfeaaGreatDoor
