import Derived.Test.YtdpfjhacmlnklaaGreatDoorK13
import Derived.Test.YtdpfjhacmlnklaaGreatDoorK16
import Derived.Test.YtdpfjhacmlnklaaGreatDoorK28
import Derived.Test.YtdpfjhacmlnklaaGreatDoorK11
import Derived.Test.YtdpfjhacmlnklaaGreatDoorK32
import Derived.Test.YtdpfjhacmlnklaaGreatDoorK08
import Derived.Test.YtdpfjhacmlnklaaGreatDoorK31
namespace Go.Proofs.YtdpfjhacmlnklaaGreatDoor
set_option linter.unusedVariables false
set_option maxRecDepth 100000
set_option maxHeartbeats 8000000
open Go.ChangeShapes Go.WideShapes Go.ChangeAt Go.RowKit Go.Deep _root_.Go.Proofs.Tryz
theorem otc_cs (o : Ot) : (otc o).extract 7 (7 + 82) = cpc o.K := by
 apply Array.ext_getElem?
 intro j
 rw [Array.getElem?_extract]
 by_cases h : j < 82
 ·rw [if_pos (by rw [bN]; omega), cV _ _ (by omega), dN _ _ h]
  unfold dE
  rw [if_neg (by omega), if_neg (by omega), if_neg (by omega), if_neg (by omega), if_neg (by omega), if_neg (by omega), if_neg (by omega), show 7 + j - 7 = j by omega]
 ·rw [if_neg (by rw [bN]; omega), Array.getElem?_eq_none (by rw [aI]; omega)]
section
variable {B : Nat} {w0 : World} {b c g g' : Nat} {L L1 : Lay} {S T S1 : St} {vr vi vo ur ui uo : Value} {w w' : World} {cs cs' : Array Value} {t t' : TypeId}
end
def scc (K : Cp) (S : St) (vr vi vo va : Value) : Array Value := ((cpc K).toList ++ ((stc S vr vi vo).toList ++ [va])).toArray
theorem EQ (K : Cp) (S : St) (vr vi vo va : Value) (j : Nat) (v : Value) (h : (cpc K)[j]? = some v) : (scc K S vr vi vo va)[0 + j]? = some v := by
 have hj : j < 82 := by
  by_cases q : j < 82
  ·exact q
  ·rw [Array.getElem?_eq_none (by rw [aI]; omega)] at h; cases h
 unfold scc
 rw [Nat.zero_add, List.getElem?_toArray, List.getElem?_append_left (by rw [Array.length_toList, aI]; exact hj), Array.getElem?_toList]
 exact h
theorem yM (K : Cp) (S : St) (vr vi vo va : Value) (j : Nat) (v : Value) (h : (stc S vr vi vo)[j]? = some v) : (scc K S vr vi vo va)[82 + j]? = some v := by
 have hj : j < 15 := by
  by_cases q : j < 15
  ·exact q
  ·rw [Array.getElem?_eq_none (by show 15 ≤ j; omega)] at h; cases h
 unfold scc
 rw [List.getElem?_toArray, List.getElem?_append_right (by rw [Array.length_toList, aI]; omega), Array.length_toList, aI, show 82 + j - 82 = j by omega, List.getElem?_append_left (by rw [Array.length_toList]; exact hj), Array.getElem?_toList]
 exact h
theorem EP (K : Cp) (S : St) (vr vi vo va : Value) : (scc K S vr vi vo va)[97]? = some va := by
 unfold scc
 rw [List.getElem?_toArray, List.getElem?_append_right (by rw [Array.length_toList, aI]; omega), Array.length_toList, aI, List.getElem?_append_right (by rw [Array.length_toList]; exact Nat.le_refl 15), Array.length_toList]
 rfl
def uZ (w : World) (v : Value) (O : List Acd) : Prop :=
 ∃ a cap, v = .slice a O.length cap ∧ O.length ≤ cap ∧ (O ≠ [] → ∃ g off, a = some ⟨g, off, none⟩ ∧ g < w.heap.size ∧ ∀ j, j < O.length → ∀ i, i < 5 → w.cell? ⟨g, off + j * 5 + i, none⟩ = (acc (O.getD j ⟨0, 0, 0, 0#64, 0#64⟩))[i]?)
theorem gD (S : St) (vr vi vo : Value) : (prog.info? 35).map (·.size) = some (stc S vr vi vo).size := by kernel_rfl
def cH (K o : Cp) : Cp := { K with rv := o.rv, ra := o.ra, rs := o.rs }
theorem jO (K : Cp) : cH K K = K := rfl
theorem iO {K : Cp} (h : PR K = K) : PR (bL K) = bL K := by
 have e : PR (bL K) = bL (PR K) := rfl
 rw [e, h]
theorem lO {K : Cp} (h : PR K = K) {ad : BitVec 64} {sz : Int} (hz : (sz = 4 ∧ ad % 4#64 = 0#64) ∨ (sz = 8 ∧ ad % 8#64 = 0#64)) : PR { K with rv := true, ra := ad, rs := sz } = { K with rv := true, ra := ad, rs := sz } := by
 have hr : rok true ad sz = true := by
  unfold rok
  rcases hz with ⟨rfl, q⟩ | ⟨rfl, q⟩ <;> simp [q]
 have e : PR { K with rv := true, ra := ad, rs := sz } = { PR K with rv := rok true ad sz, ra := if rok true ad sz then ad else 0#64, rs := if rok true ad sz then sz else 0 } := rfl
 rw [e, hr, if_pos rfl, if_pos rfl, h]
theorem xP {S : St} {k : Wy} {z : Nat} {f : Option (BitVec 64 → BitVec 64)} (h : (MV S k z f).t.is = false) : fbd S k z = tN ∧ n64 k.ad % (z : Int) = 0 ∧ thr S k.ra k.r k.ad z = true := by
 have hf : (fbd S k z).is = false := by
  cases f with
  | none =>
   simp only [MV] at h
   split at h
   ·rename_i q; rw [h] at q; cases q
   ·rename_i q; simpa using q
  | some f =>
   simp only [MV] at h
   split at h
   ·rename_i q; rw [h] at q; cases q
   ·rename_i q; simpa using q
 unfold fbd at hf ⊢
 by_cases h1 : n64 k.ad % (z : Int) = 0
 ·rw [if_pos h1] at hf ⊢
  by_cases h2 : ckA (PC k.c) (PA k.a) k.m k.ad z k.r = true ∧ thr S k.ra k.r k.ad z = true
  ·rw [if_pos h2]; exact ⟨rfl, h1, h2.2⟩
  ·rw [if_neg h2] at hf; cases hf
 ·rw [if_neg h1] at hf; cases hf
structure Rv (K : Cp) (held : Bool) (at' : BitVec 64) (size : Int) : Prop where
 p : PR K = K
 e : held = K.rv
 h : held = true → at' = K.ra ∧ size = K.rs ∧ (size = 4 ∨ size = 8) ∧ 2147483648 ≤ n64 at' ∧ n64 at' ≤ 2147549184
theorem Rv.ok {K : Cp} {b : Bool} {x : BitVec 64} {s : Int} (h : Rv K b x s) : CG K := by
 have q := vE K
 rw [h.p] at q
 exact q
theorem EN {x ad : BitVec 64} {s w : Int} (h1 : 2147483648 ≤ n64 x) (h2 : n64 x ≤ 2147549184) (hs : s = 4 ∨ s = 8) (hw : 1 ≤ w ∧ w ≤ 8) : (decide (n64 ad < IntKind.u64.wrap (n64 x + s)) && decide (n64 x < IntKind.u64.wrap (n64 ad + w))) = bh x ad s w := by
 unfold bh
 have v1 : IntKind.u64.wrap s = s := dH (by omega) (by omega)
 have v2 : IntKind.u64.wrap w = w := dH (by omega) (by omega)
 have w1 : IntKind.u64.wrap (n64 x + s) = (n64 x + s) % 18446744073709551616 := by
  unfold IntKind.wrap
  simp [IntKind.bits, IntKind.signed]
 have w2 : IntKind.u64.wrap (n64 ad + w) = (n64 ad + w) % 18446744073709551616 := by
  unfold IntKind.wrap
  simp [IntKind.bits, IntKind.signed]
 rw [w1, w2, v1, v2]
 unfold n64 at h1 h2 ⊢
 have ea := ad.isLt
 have er := x.isLt
 have s1 : (ad - x).toNat = (18446744073709551616 - x.toNat + ad.toNat) % 18446744073709551616 := by rw [BitVec.toNat_sub]
 have s2 : (x - ad).toNat = (18446744073709551616 - ad.toNat + x.toNat) % 18446744073709551616 := by rw [BitVec.toNat_sub]
 rw [s1, s2, Bool.eq_iff_iff]
 simp only [Bool.and_eq_true, Bool.or_eq_true, decide_eq_true_eq]
 omega
theorem xJ {S : St} {K : Cp} {a : Acd} (hp : PR K = K) (h : (DO S K a).1.t.is = true) : cH K (DO S K a).1.K = K := by
 unfold DO at h ⊢
 by_cases h1 : a.kd = 1
 ·rw [if_pos h1]; rfl
 rw [if_neg h1] at h ⊢
 by_cases h2 : a.kd = 2
 ·rw [if_pos h2]; rfl
 rw [if_neg h2] at h ⊢
 by_cases h3 : a.kd = 3
 ·rw [if_pos h3] at h ⊢
  show cH K (stK (PR K) _ a.ad a.sz) = K
  unfold stK
  rw [if_pos h, hp]; rfl
 rw [if_neg h3] at h ⊢
 by_cases h4 : a.kd = 4
 ·rw [if_pos h4] at h ⊢
  show cH K (rsK (PR K) _ a.ad a.sz) = K
  unfold rsK
  rw [if_pos h, hp]; rfl
 rw [if_neg h4] at h ⊢
 by_cases h5 : a.kd = 5
 ·rw [if_pos h5] at h ⊢
  show cH K (if _ then PR K else bL (PR K)) = K
  rw [if_pos h, hp]; rfl
 rw [if_neg h5] at h ⊢
 by_cases h6 : a.kd = 6
 ·rw [if_pos h6] at h ⊢
  show cH K (stK (PR K) _ a.ad (cD a.op)) = K
  unfold stK
  rw [if_pos h, hp]; rfl
 rw [if_neg h6] at h ⊢
 by_cases h7 : a.kd = 7
 ·rw [if_pos h7]; rfl
 rw [if_neg h7]; rfl
theorem al_4 {ad : BitVec 64} (h : n64 ad % 4 = 0) : ad % 4#64 = 0#64 := by
 apply BitVec.eq_of_toNat_eq
 unfold n64 at h
 rw [BitVec.toNat_umod]
 show ad.toNat % 4 = 0
 omega
theorem al_8 {ad : BitVec 64} (h : n64 ad % 8 = 0) : ad % 8#64 = 0#64 := by
 apply BitVec.eq_of_toNat_eq
 unfold n64 at h
 rw [BitVec.toNat_umod]
 show ad.toNat % 8 = 0
 omega
theorem rv_4 {S : St} {K : Cp} {a : Acd} {b : Bool} {x : BitVec 64} {s : Int} (hs : Sok S) (hr : Rv K b x s) (hk : a.kd = 4) (h : (DO S K a).1.t.is = false) : Rv (cH K (DO S K a).1.K) true a.ad a.sz := by
 unfold DO at h ⊢
 rw [if_neg (by omega), if_neg (by omega), if_neg (by omega), if_pos hk] at h ⊢
 have h' : (AT S (wL 0 (PR K) a.ad) a.sz none).t.is = false := h
 show Rv (cH K (rsK (PR K) _ a.ad a.sz)) true a.ad a.sz
 have e : rsK (PR K) (AT S (wL 0 (PR K) a.ad) a.sz none) a.ad a.sz = { PR K with rv := true, ra := a.ad, rs := a.sz } := by
  unfold rsK; rw [if_neg (by rw [h']; decide)]
 rw [e]
 have e2 : cH K { PR K with rv := true, ra := a.ad, rs := a.sz } = { K with rv := true, ra := a.ad, rs := a.sz } := rfl
 rw [e2]
 have hz : a.sz = 4 ∨ a.sz = 8 := by
  unfold AT at h'
  by_cases q : a.sz = 4 ∨ a.sz = 8
  ·exact q
  ·rw [if_neg q] at h'; cases h'
 obtain ⟨z, hz4, ez⟩ : ∃ z : Nat, (z = 4 ∨ z = 8) ∧ a.sz = z := ⟨a.sz.toNat, by omega, by omega⟩
 rw [CP (z := z) (by unfold bV; omega) ez (by omega)] at h'
 obtain ⟨_, hal, hth⟩ := xP h'
 have hal' : n64 a.ad % (z : Int) = 0 := hal
 have hth' : (decide (1 ≤ (z : Int)) && hld S.ram.length (n64 a.ad) z) = true := hth
 rw [Bool.and_eq_true] at hth'
 have hb := hth'.2
 unfold hld at hb
 simp only [Bool.and_eq_true, decide_eq_true_eq] at hb
 have hn := hs.n.1
 refine ⟨lO hr.p ?_, rfl, fun _ => ⟨rfl, rfl, hz, by omega, by omega⟩⟩
 rcases hz with q | q
 ·have : z = 4 := by omega
  subst this
  exact .inl ⟨q, al_4 hal'⟩
 ·have : z = 8 := by omega
  subst this
  exact .inr ⟨q, al_8 hal'⟩
theorem rv_5 {S : St} {K : Cp} {a : Acd} {b : Bool} {x : BitVec 64} {s : Int} (hr : Rv K b x s) (hk : a.kd = 5) (h : (DO S K a).1.t.is = false) : (DO S K a).1.ok = (b && (decide (x = a.ad) && decide (s = a.sz))) ∧ Rv (cH K (DO S K a).1.K) false x s := by
 unfold DO at h ⊢
 rw [if_neg (by omega), if_neg (by omega), if_neg (by omega), if_neg (by omega), if_pos hk] at h ⊢
 have h' : (AT S (wS 0 (PR K) a.ad) a.sz (if hel (PR K) a.ad a.sz = true then some (fun _ => a.v) else none)).t.is = false := h
 constructor
 ·show (!(AT S (wS 0 (PR K) a.ad) a.sz (if hel (PR K) a.ad a.sz = true then some (fun _ => a.v) else none)).t.is && hel (PR K) a.ad a.sz) = _
  rw [h', hr.p]
  unfold hel
  cases hb : b with
  | false => rw [← hr.e, hb]; rfl
  | true =>
   obtain ⟨e1, e2, _⟩ := hr.h hb
   rw [← hr.e, hb, e1, e2]; rfl
 ·show Rv (cH K (if (AT S (wS 0 (PR K) a.ad) a.sz (if hel (PR K) a.ad a.sz = true then some (fun _ => a.v) else none)).t.is = true then PR K else bL (PR K))) false x s
  rw [if_neg (by rw [h']; decide), hr.p]
  have e : cH K (bL K) = bL K := rfl
  rw [e]
  exact ⟨iO hr.p, rfl, fun q => by cases q⟩
theorem CH {K : Cp} {b : Bool} {x ad : BitVec 64} {s w : Int} (hr : Rv K b x s) (T : Bool) (hT : b = true → T = bh x ad s w) : Rv (cH K (bhK K ad w)) (b && !T) x s := by
 cases hb : b with
 | false =>
  have hv : K.rv = false := by rw [← hr.e, hb]
  have hn : K.rv = false ∧ K.ra = 0#64 ∧ K.rs = 0 := by
   rcases hr.ok with q | q
   ·exact q
   ·rw [hv] at q; cases q.1
  have e : bhK K ad w = K := by unfold bhK; rw [tL hn]; split <;> rfl
  rw [e, jO]
  exact ⟨hr.p, hv.symm, fun q => by cases q⟩
 | true =>
  obtain ⟨e1, e2, e3, e4, e5⟩ := hr.h hb
  rw [hT hb]
  subst e1
  have e6 : bh K.ra ad s w = bh K.ra ad K.rs w := by rw [e2]
  rw [e6]
  unfold bhK
  cases hq : bh K.ra ad K.rs w with
  | true =>
   rw [if_pos rfl]
   exact ⟨iO hr.p, rfl, fun q => by cases q⟩
  | false =>
   rw [if_neg (by decide), jO]
   exact ⟨hr.p, by rw [← hr.e, hb]; rfl, fun _ => ⟨rfl, e2, e3, e4, e5⟩⟩
def wdt (a : Acd) : Int := if a.kd = 6 then (if 86 ≤ a.op then 8 else 4) else a.sz
theorem CZ {S : St} {k : Wy} {sz : Int} {f : Option (BitVec 64 → BitVec 64)} (h : (PL S k sz f).t.is = false) : 1 ≤ sz ∧ sz ≤ 8 := by
 unfold PL at h
 by_cases h1 : sz = 1
 ·omega
 rw [if_neg h1] at h
 by_cases h2 : sz = 2
 ·omega
 rw [if_neg h2] at h
 by_cases h4 : sz = 4
 ·omega
 rw [if_neg h4] at h
 by_cases h8 : sz = 8
 ·omega
 rw [if_neg h8] at h
 cases h
theorem EO {S : St} {K : Cp} {a : Acd} {b : Bool} {x : BitVec 64} {s : Int} (hr : Rv K b x s) (hk : a.kd = 3 ∨ a.kd = 6) (h : (DO S K a).1.t.is = false) :
  Rv (cH K (DO S K a).1.K) (b && !(decide (n64 a.ad < IntKind.u64.wrap (n64 x + IntKind.u64.wrap s)) && decide (n64 x < IntKind.u64.wrap (n64 a.ad + IntKind.u64.wrap (wdt a))))) x s := by
 have key : ∀ w : Int, 1 ≤ w ∧ w ≤ 8 → wdt a = w → (DO S K a).1.K = bhK K a.ad w → Rv (cH K (DO S K a).1.K) (b && !(decide (n64 a.ad < IntKind.u64.wrap (n64 x + IntKind.u64.wrap s)) && decide (n64 x < IntKind.u64.wrap (n64 a.ad + IntKind.u64.wrap (wdt a))))) x s := fun w hw e1 e2 => by
  rw [e1, e2]
  refine CH hr _ (fun hb => ?_)
  obtain ⟨_, _, e3, e4, e5⟩ := hr.h hb
  have v1 : IntKind.u64.wrap s = s := dH (by omega) (by omega)
  have v2 : IntKind.u64.wrap w = w := dH (by omega) (by omega)
  rw [v1, v2]
  exact EN e4 e5 e3 hw
 rcases hk with hk | hk
 ·refine key a.sz ?_ (by unfold wdt; rw [if_neg (by omega)]) ?_
  ·unfold DO at h
   rw [if_neg (by omega), if_neg (by omega), if_pos hk] at h
   exact CZ h
  ·unfold DO at h ⊢
   rw [if_neg (by omega), if_neg (by omega), if_pos hk] at h ⊢
   show stK (PR K) _ a.ad a.sz = _
   have h' : (PL S (wS 0 (PR K) a.ad) a.sz (some fun _ => a.v)).t.is = false := h
   unfold stK
   rw [if_neg (by rw [h']; decide), hr.p]
 ·have hz : cD a.op = wdt a ∧ (cD a.op = 4 ∨ cD a.op = 8) := by
   unfold DO at h
   rw [if_neg (by omega), if_neg (by omega), if_neg (by omega), if_neg (by omega), if_neg (by omega), if_pos hk] at h
   have h' : (AM S (PR K) 0 a.op a.ad a.v).t.is = false := h
   unfold AM at h'
   by_cases q : cD a.op = 0
   ·rw [if_pos q] at h'; cases h'
   ·unfold wdt
    rw [if_pos hk]
    unfold cD at q ⊢
    repeat' split at q
    all_goals first | (exact absurd rfl q) | skip
    all_goals (repeat' split)
    all_goals first | omega | exact ⟨rfl, .inl rfl⟩ | exact ⟨rfl, .inr rfl⟩
  refine key (cD a.op) (by omega) hz.1.symm ?_
  unfold DO at h ⊢
  rw [if_neg (by omega), if_neg (by omega), if_neg (by omega), if_neg (by omega), if_neg (by omega), if_pos hk] at h ⊢
  show stK (PR K) _ a.ad (cD a.op) = _
  have h' : (AM S (PR K) 0 a.op a.ad a.v).t.is = false := h
  unfold stK
  rw [if_neg (by rw [h']; decide), hr.p]
theorem xI {S : St} {K : Cp} {a : Acd} (h3 : ¬ a.kd = 3) (h4 : ¬ a.kd = 4) (h5 : ¬ a.kd = 5) (h6 : ¬ a.kd = 6) : cH K (DO S K a).1.K = K := by
 unfold DO
 by_cases h1 : a.kd = 1
 ·rw [if_pos h1]; rfl
 rw [if_neg h1]
 by_cases h2 : a.kd = 2
 ·rw [if_pos h2]; rfl
 rw [if_neg h2, if_neg h3, if_neg h4, if_neg h5, if_neg h6]
 by_cases h7 : a.kd = 7
 ·rw [if_pos h7]; rfl
 rw [if_neg h7]; rfl
end Go.Proofs.YtdpfjhacmlnklaaGreatDoor
namespace Go.Proofs.YtdpfjhacmlnklaaGreatDoor
set_option linter.unusedVariables false
set_option maxRecDepth 100000
set_option maxHeartbeats 8000000
open Go.MuLone Go.ChangeShapes Go.WideShapes Go.ChangeAt Go.RowKit Go.Deep _root_.Go.Proofs.Tryz
theorem CU {S : St} (hs : Sok S) (k : Cp) (a : Acd) : Sok (DO S k a).2 := by
 unfold DO
 have hb : ∀ t e : Bool, Sok (S.beg t e false [n64 a.ad % 256]) := fun t e => hs.beg _ _ _ _ (fun x hx => by
  have q : x = n64 a.ad % 256 := by simpa using hx
  subst q
  have := bB a.ad
  omega)
 repeat' split
 all_goals first | exact yF hs | exact iN hs | exact yE hs | exact CO hs | exact hb _ _ | exact hs
end Go.Proofs.YtdpfjhacmlnklaaGreatDoor
namespace Go.Proofs.YtdpfjhacmlnklaaGreatDoor
set_option linter.unusedVariables false
set_option maxRecDepth 100000
set_option maxHeartbeats 8000000
open Go.ChangeShapes Go.WideShapes Go.ChangeAt Go.RowKit Go.Deep _root_.Go.Proofs.Tryz
section
variable {H : Type} {enc : TypeId × Value → H} {w : World} {base : Nat} {held : Bool}
theorem kI : prog.cellsOf 44 = 5 := by kernel_rfl
theorem pO : prog.bytesOf 44 = 40 := by kernel_rfl
theorem tP {fuel : Nat} {cs : List Value} {y : DataW H × List MemPlace} (h : DataW.trod enc prog w base (fun _ => true) held fuel 44 cs = some y) : ∃ x : Acd, cs = (acc x).toList := by
 obtain ⟨xs, n, _, rfl, hl, hlen, hf⟩ := DataW.trod_struct underlying44 h
 rw [kI] at hl
 match cs, hl, xs, (show xs.length = 5 from hlen), hf with
 | [v0, v1, v2, v3, v4], _, [y0, y1, y2, y3, y4], _, hf =>
  have g0 : DataW.trod enc prog w base (fun _ => true) held n 3 [v0] = some y0 := by
   have := hf 0 _ rfl
   simpa [show prog.cellsOf 3 = 1 by kernel_rfl] using this
  have g1 : DataW.trod enc prog w base (fun _ => true) held n 3 [v1] = some y1 := by
   have := hf 1 _ rfl
   simpa [show prog.cellsOf 3 = 1 by kernel_rfl] using this
  have g2 : DataW.trod enc prog w base (fun _ => true) held n 3 [v2] = some y2 := by
   have := hf 2 _ rfl
   simpa [show prog.cellsOf 3 = 1 by kernel_rfl] using this
  have g3 : DataW.trod enc prog w base (fun _ => true) held n 22 [v3] = some y3 := by
   have := hf 3 _ rfl
   simpa [show prog.cellsOf 22 = 1 by kernel_rfl] using this
  have g4 : DataW.trod enc prog w base (fun _ => true) held n 22 [v4] = some y4 := by
   have := hf 4 _ rfl
   simpa [show prog.cellsOf 22 = 1 by kernel_rfl] using this
  obtain ⟨i0, e0, _, w0⟩ := DataW.trod_int underlying3 g0
  simp only [List.cons.injEq, and_true] at e0
  subst e0
  obtain ⟨i1, e1, _, w1⟩ := DataW.trod_int underlying3 g1
  simp only [List.cons.injEq, and_true] at e1
  subst e1
  obtain ⟨i2, e2, _, w2⟩ := DataW.trod_int underlying3 g2
  simp only [List.cons.injEq, and_true] at e2
  subst e2
  obtain ⟨i3, e3, _, w3⟩ := DataW.trod_int underlying22 g3
  simp only [List.cons.injEq, and_true] at e3
  subst e3
  obtain ⟨x3, rfl⟩ := bW w3
  obtain ⟨i4, e4, _, w4⟩ := DataW.trod_int underlying22 g4
  simp only [List.cons.injEq, and_true] at e4
  subst e4
  obtain ⟨x4, rfl⟩ := bW w4
  exact ⟨⟨i0, i1, i2, x3, x4⟩, rfl⟩
theorem qK {fuel : Nat} {v : Value} {y : DataW H × List MemPlace} (h : DataW.trod enc prog w base (fun _ => true) held fuel 36 [v] = some y) (hz : ∀ q ∈ y.1.weights prog 36, q ≤ reachBytes) :
  ∃ O : List Acd, uZ w v O ∧ O.length * 40 ≤ 140737488351232 := by
 rcases DataW.trod_slice underlying36 h with ⟨e, _⟩ | ⟨a, len, cap, elems, rest, n, _, e, hy, _, hl, hm, hel, hc, _, _⟩
 ·simp at e
  subst e
  exact ⟨[], ⟨none, 0, rfl, Nat.le_refl _, fun hn => absurd rfl hn⟩, by simp⟩
 ·simp at e
  subst e
  have hlen : len * 40 ≤ reachBytes := by
   have hmem : (elems.length + rest.length) * 40 ∈ y.1.weights prog 36 := by
    rw [hy]; simp [DataW.weights, underlying36, pO]
   have := hz _ hmem
   omega
  have each : ∀ i, i < len → ∃ x : Acd, (∀ c, c < 5 → w.cell? ((a.add (i * 5)).add c) = (acc x)[c]?) := by
   intro i hi
   have hci := hc i hi
   rw [kI] at hci
   have hei : ∃ z, elems[i]? = some z := ⟨elems[i]'(by omega), List.getElem?_eq_getElem (by omega)⟩
   obtain ⟨z, hzz⟩ := hei
   rw [hzz] at hci
   obtain ⟨cs, hcs, ht⟩ := Option.bind_eq_some_iff.1 hci
   obtain ⟨x, hx⟩ := tP ht
   obtain ⟨_, _, hcell⟩ := World.cells?_some hcs
   exact ⟨x, fun c hc' => by rw [hcell c hc', hx, Array.getElem?_toList]⟩
  obtain ⟨O, hLl, hLp⟩ := lZ (⟨0, 0, 0, 0#64, 0#64⟩ : Acd) len each
  subst hLl
  refine ⟨O, ⟨some a, cap, rfl, hl, fun hne => ?_⟩, by simp only [reachBytes] at hlen; omega⟩
  have hpos : 0 < O.length := List.length_pos_iff.2 hne
  obtain ⟨b, off, spot⟩ := a
  have hc0 := (hLp 0 hpos) 0 (by omega)
  have hsp : (((⟨b, off, spot⟩ : Addr).add (0 * 5)).add 0).spot = none := World.cell?_spot (v := .int .i64 (O.getD 0 ⟨0, 0, 0, 0#64, 0#64⟩).kd) hc0
  have hspot : spot = none := by simpa [Addr.add] using hsp
  subst hspot
  have hadd : ∀ (x y : Nat), (⟨b, x, none⟩ : Addr).add y = ⟨b, x + y, none⟩ := fun x y => by unfold Addr.add; split <;> simp_all
  have hc0' : w.cell? ⟨b, off, none⟩ = some (.int .i64 (O.getD 0 ⟨0, 0, 0, 0#64, 0#64⟩).kd) := by
   have := hc0; rw [hadd, hadd] at this; simpa [acc] using this
  refine ⟨b, off, rfl, World.block_lt_of_cell? w _ hc0', fun j hj c hc' => ?_⟩
  have := (hLp j hj) c hc'; rw [hadd, hadd] at this; exact this
theorem rK : prog.cellsOf 38 = 98 := by kernel_rfl
theorem pQ : prog.cellsOf 36 = 1 := by kernel_rfl
theorem BZ {fuel : Nat} {cs : List Value} {y : DataW H × List MemPlace} (h : DataW.trod enc prog w base (fun _ => true) held fuel 38 cs = some y) (hz : ∀ q ∈ y.1.weights prog 38, q ≤ reachBytes) :
  ∃ (K : Cp) (S : St) (ar ai ao : Option Addr) (cr ci co : Nat) (va : Value) (O : List Acd), cs = (scc K S (.slice ar S.ram.length cr) (.slice ai S.inp.length ci) (.slice ao S.out.length co) va).toList ∧ Bs S (.slice ar S.ram.length cr) (.slice ai S.inp.length ci) (.slice ao S.out.length co) w ∧ StW S ∧
   S.ram.length ≤ 140737488355328 ∧ S.inp.length ≤ 140737488355328 ∧ S.out.length ≤ 140737488355328 ∧ uZ w va O ∧ O.length ≤ 140737488355328 := by
 obtain ⟨xs, n, _, rfl, hl, hlen, hf⟩ := DataW.trod_struct underlying38 h
 rw [rK] at hl
 match xs, (show xs.length = 3 from hlen), hf, hz with
 | [y0, y1, y2], _, hf, hz =>
  have g0 : DataW.trod enc prog w base (fun _ => true) held n 31 (cs.take 82) = some y0 := by
   have := hf 0 _ rfl
   simpa [kJ] using this
  have g1 : DataW.trod enc prog w base (fun _ => true) held n 35 ((cs.drop 82).take 15) = some y1 := by
   have := hf 1 _ rfl
   simpa [oM] using this
  have g2 : DataW.trod enc prog w base (fun _ => true) held n 36 ((cs.drop 97).take 1) = some y2 := by
   have := hf 2 _ rfl
   simpa [pQ] using this
  have z1 : ∀ q ∈ y1.1.weights prog 35, q ≤ reachBytes := fun q hq => hz q (by
   simp only [DataW.weights, underlying38]
   exact DataW.weights_mem_each (j := 1) (t := 35) (d := y1.1) rfl rfl q hq)
  have z2 : ∀ q ∈ y2.1.weights prog 36, q ≤ reachBytes := fun q hq => hz q (by
   simp only [DataW.weights, underlying38]
   exact DataW.weights_mem_each (j := 2) (t := 36) (d := y2.1) rfl rfl q hq)
  have hd : ∃ va, (cs.drop 97).take 1 = [va] ∧ cs.drop 97 = [va] := by
   have hl2 : (cs.drop 97).length = 1 := by simp [hl]
   match hx : cs.drop 97, hl2 with
   | [va], _ => exact ⟨va, by simp, rfl⟩
  obtain ⟨va, e1, e2⟩ := hd
  rw [e1] at g2
  obtain ⟨K, hK⟩ := tQ g0
  obtain ⟨S, ar, ai, ao, cr, ci, co, hS, hBs, hW, l1, l2, l3⟩ := nQ g1 z1
  obtain ⟨O, hO, hOl⟩ := qK g2 z2
  refine ⟨K, S, ar, ai, ao, cr, ci, co, va, O, ?_, hBs, hW, by omega, by omega, by omega, hO, by omega⟩
  have e3 : cs = cs.take 82 ++ ((cs.drop 82).take 15 ++ cs.drop 97) := by
   have q1 : cs.drop 97 = (cs.drop 82).drop 15 := by rw [List.drop_drop]
   rw [q1, List.take_append_drop, List.take_append_drop]
  rw [e3, hK, hS, e2]
  unfold scc
  simp
end
end Go.Proofs.YtdpfjhacmlnklaaGreatDoor
namespace Go.Proofs.YtdpfjhacmlnklaaGreatDoor
set_option linter.unusedVariables false
set_option maxRecDepth 100000
set_option maxHeartbeats 8000000
open Go.MuLone Go.ChangeShapes Go.WideShapes Go.ChangeAt Go.RowKit Go.Deep _root_.Go.Proofs.Tryz
structure Ky (w0 : World) (b : Nat) (L : Lay) (S : St) (w : World) : Prop where
 p : PB w0.heap.size L S w
 e : L.b = b
 be : Below w0.heap.size w0 w
structure Ks (w0 : World) (L : Lay) (w : World) (g : Nat) (cs : Array Value) (t : TypeId) : Prop where
 r : Row w g cs t
 n : ¬ L.own g
 ge : w0.heap.size ≤ g
section
variable {w0 : World} {b g g' : Nat} {L L1 : Lay} {S S1 : St} {w w' : World} {cs cs' : Array Value} {t t' : TypeId}
theorem Ky.later (h : Ky w0 b L S w) (hb : Below w.heap.size w w') : Ky w0 b L S w' := ⟨h.p.later hb, h.e, h.be.trans (hb.mono h.be.size)⟩
theorem Ks.later (h : Ks w0 L w g cs t) (hb : Below w.heap.size w w') : Ks w0 L w' g cs t := ⟨h.r.later hb h.r.lt, h.n, h.ge⟩
theorem Ky.step (h : Ky w0 b L S w) (hs : PSt w0.heap.size L w L1 S1 w') : Ky w0 b L1 S1 w' := ⟨hs.p, hs.b.1.trans h.e, h.be.trans (hs.x.below h.be.size (fun k hk => h.p.own_lo k hk))⟩
theorem Ks.step (h : Ks w0 L w g cs t) (hs : PSt w0.heap.size L w L1 S1 w') : Ks w0 L1 w' g cs t :=
 ⟨(hs.x.block g h.r.lt h.n).trans h.r, fun e => by rcases hs.o g e with q | q; exact h.n q; have := h.r.lt; omega, h.ge⟩
theorem Ks.new (h : Ky w0 b L S w) (cs : Array Value) (t : TypeId) : Ks w0 L (w.alloc (.cells cs t)) w.heap.size cs t :=
 ⟨Row.new w cs t, fun e => by have := h.p.own_hi _ e; omega, h.be.size⟩
theorem Ky.lay (h : Ky w0 b L S w) (k : Ks w0 L w g cs t) (o : Nat) : ∀ (l : List Value), Ky w0 b L S (w.setCells g o l) := fun l => by
 have q : ∀ (l : List Value) (o : Nat) {w : World}, Exc (fun j => j = g) w (w.setCells g o l) := fun l => by
  induction l with
  | nil => intro o w; exact ⟨rfl, rfl, rfl, Nat.le_refl _, fun _ _ _ => rfl⟩
  | cons v r ih =>
   intro o w
   rw [World.setCells]
   exact (show Exc (fun j => j = g) w (w.setCell ⟨g, o, none⟩ v) from ⟨rfl, rfl, rfl, by simp, fun j hj hne => heap_setCell_other w _ j v hne⟩).trans (ih (o + 1))
 exact ⟨h.p.exo (q l o) (fun j hj e => k.n (e ▸ hj)), h.e, dQ k.ge l o h.be⟩
end
theorem uD (S : St) (ar ai ao : Option Addr) (cr ci co : Nat) (w : World) (hok : S.ok = true) (hs : Bs S (.slice ar S.ram.length cr) (.slice ai S.inp.length ci) (.slice ao S.out.length co) w) (lr : S.ram.length ≤ 140737488355328) (li : S.inp.length ≤ 140737488355328) (lo : S.out.length ≤ 140737488355328) :
  Calls prog 9 #[.agg (stc S (.slice ar S.ram.length cr) (.slice ai S.inp.length ci) (.slice ao S.out.length co))] w fun e w' => ∃ L, e = .returned (.pointer (some ⟨L.b, 0, none⟩)) ∧ PB w.heap.size L S w' ∧ Below w.heap.size w w' := by
 obtain ⟨W0, hW0, r0, b0, s0⟩ := dO w (stc S (.slice ar S.ram.length cr) (.slice ai S.inp.length ci) (.slice ao S.out.length co)) 35
 have HF : Hid (Calls prog 23 #[.agg (stc S (.slice ar S.ram.length cr) (.slice ai S.inp.length ci) (.slice ao S.out.length co))] W0 fun e w' => ∃ L, e = .returned (.tuple #[.pointer (some ⟨L.b, 0, none⟩), .int .i64 0]) ∧ PB W0.heap.size L S w' ∧ Below W0.heap.size W0 w') := sK S ar ai ao cr ci co W0 hok (hs.later b0.out).r (hs.later b0.out).i (hs.later b0.out).o lr li lo
 have HI : Hid ((prog.info? 35).map (·.size) = some (stc S (.slice ar S.ram.length cr) (.slice ai S.inp.length ci) (.slice ao S.out.length co)).size) := gD _ _ _ _
 clear hs lr li lo s0 hok
 generalize (stc S (.slice ar S.ram.length cr) (.slice ai S.inp.length ci) (.slice ao S.out.length co)) = cs at HF HI hW0 r0 ⊢
 go_enter func9, ntmps9
 go_upto_region 1 with fail
 clear hW0
 go_wp2_with (first | (refine wpList_load_row (by rfl) _ _ (by rfl) _ (by rfl) 35 _ (0, 0) _ r0.out underlying35 (by rfl) HI.out ?_) | (go_at_call 23; refine HF.out.mono ?_; rintro e w1 ⟨L, rfl, hp1, hb1⟩; have HP1 := hid hp1; have HB1 := hid hb1; clear hp1 hb1))
 go_ret
 exact ⟨L, rfl, HP1.out.le b0.out.size, b0.out.trans (HB1.out.mono b0.out.size)⟩
theorem uC (S : St) (ar ai ao : Option Addr) (cr ci co : Nat) (w : World) (hok : S.ok = false) :
  Calls prog 9 #[.agg (stc S (.slice ar S.ram.length cr) (.slice ai S.inp.length ci) (.slice ao S.out.length co))] w fun e w' => e = .returned (.pointer none) ∧ Below w.heap.size w w' := by
 obtain ⟨W0, hW0, r0, b0, s0⟩ := dO w (stc S (.slice ar S.ram.length cr) (.slice ai S.inp.length ci) (.slice ao S.out.length co)) 35
 have HF : Hid (Calls prog 23 #[.agg (stc S (.slice ar S.ram.length cr) (.slice ai S.inp.length ci) (.slice ao S.out.length co))] W0 fun e w' => e = .returned (.tuple #[.pointer none, .int .i64 31]) ∧ Below W0.heap.size W0 w') := sJ S ar ai ao cr ci co W0 hok
 have HI : Hid ((prog.info? 35).map (·.size) = some (stc S (.slice ar S.ram.length cr) (.slice ai S.inp.length ci) (.slice ao S.out.length co)).size) := gD _ _ _ _
 clear s0 hok
 generalize (stc S (.slice ar S.ram.length cr) (.slice ai S.inp.length ci) (.slice ao S.out.length co)) = cs at HF HI hW0 r0 ⊢
 go_enter func9, ntmps9
 go_upto_region 1 with fail
 clear hW0
 go_wp2_with (first | (refine wpList_load_row (by rfl) _ _ (by rfl) _ (by rfl) 35 _ (0, 0) _ r0.out underlying35 (by rfl) HI.out ?_) | (go_at_call 23; refine HF.out.mono ?_; rintro e w1 ⟨rfl, hb1⟩; have HB1 := hid hb1; clear hb1))
 go_ret
 exact ⟨rfl, b0.out.trans (HB1.out.mono b0.out.size)⟩
theorem EE (S : St) (K : Cp) (v : BitVec 64) : PL S (wS 0 K 1#64) 8 (some fun _ => v) = ⟨0#64, 0#64, tS 6 1#64, S⟩ := by
 rw [yG (sz := 8) (z := 8) (by simp [bV]) rfl]
 exact yQ (k := wS 0 K 1#64) (by show ¬ (n64 1#64 % ((8 : Nat) : Int) = 0); decide)
theorem pG {B : Nat} {L : Lay} {S : St} (w : World) (h : PB B L S w) (hs : Sok S) (hT : Tb w) (hB : 0 < B) (k : Cp) :
  Calls prog 11 #[.agg (cpc k), .pointer (some ⟨L.b, 0, none⟩)] w fun e w' => e = .returned (.agg (cpc (PR k))) ∧ ∃ L', PSt B L w L' S w' := by
 obtain ⟨W0, hW0, r0, r1, b0, s0⟩ := bX w (cpc k) (cpc cz) 31 31
 have hzc := dM
 have hzt := bE
 have HP0 : Hid (PSt B L w L S W0) := (PSt.refl h).post b0.out
 have HO1 : Hid (Own w L W0 (w.heap.size + 1) (cpc cz) 31) := ⟨r1.out, (fun e => by have := h.own_hi _ e; omega), by omega⟩
 have HST : Hid (Calls prog 25 #[.agg (cpc k), .pointer (some ⟨L.b, 0, none⟩), .int .u64 1, .int .i64 8, .int .u64 0] W0 fun e w' => e = .returned (.tuple #[.agg (cpc (PR k)), .agg (tpc (tS 6 1#64))]) ∧ ∃ L', PSt B L W0 L' S w') := by
  have q := iP W0 HP0.out.p hs (hT.next b0.out) hB k 1#64 8 0#64
  rw [rC, EE] at q
  exact q
 clear h hs hT s0
 go_enter func11, ntmps11
 go_upto_region 1 with fail
 clear hW0
 go_upto_region 2 with (first | (refine wpList_load_row (by rfl) _ _ (by rfl) _ (by rfl) 31 _ (0, 0) _ r0.out underlying31 (by rfl) (aE _) ?_) | (go_at_call 25; refine HST.out.mono ?_; rintro e w5 ⟨rfl, L1, hp5⟩; have HP5 := hid hp5; clear hp5) | (refine aC (by rfl) _ _ _ (by rfl) (by rfl) _ _ _ (by rfl) (by rfl) (gJ _ _ _ _ _).1 (aE _) (by rw [aI, aI]) (aY _) ?_) | (refine aC (by rfl) _ _ _ (by rfl) (by rfl) _ _ _ (by rfl) (by rfl) ((setRow_other _ _ _ _ (by omega)).trans (gJ _ _ _ _ _).2) (aB _) (aP _ _) (aG _) ?_))
 have HC5 : Hid (Row ((((w5.alloc (.cells (cpc cz) 31)).alloc (.cells (tpc tN) 46)).setRow w5.heap.size (cpc (PR k))).setRow (w5.heap.size + 1) (tpc (tS 6 1#64))) w5.heap.size (cpc (PR k)) 31) := (setRow_other _ _ _ _ (by omega)).trans (setRow_heap _ _ _ _ _ _ (gJ w5 (cpc cz) (tpc tN) 31 46).1)
 refine bK (motive := fun W => Code.wp _ _ _ _ W) (Q := fun W => Row W w5.heap.size (cpc (PR k)) 31 ∧ Own w L1 W (w.heap.size + 1) (cpc cz) 31 ∧ PSt B L w L1 S W) ⟨HC5.out, (gI (HP0.out.trans HP5.out) (PR k) (tS 6 1#64)).2.2 _ _ _ (HO1.out.bus HP5.out), (gI (HP0.out.trans HP5.out) (PR k) (tS 6 1#64)).2.1⟩ ?_
 clear HC5 HO1 HP0 HP5 HST r0 r1 b0
 generalize w5.heap.size = g5
 rintro W6 ⟨q0, q1, q2⟩
 have R0 := hid q0
 have HO1 := hid q1
 have HP6 := hid q2
 clear q0 q1 q2
 go_wp2_with (first | (refine wpList_load_row (by rfl) _ _ (by rfl) _ (by rfl) 31 _ (0, 0) _ R0.out underlying31 (by rfl) (aE _) ?_) | (refine aC (by rfl) _ _ _ (by rfl) (by rfl) _ _ _ (by rfl) (by rfl) HO1.out.r (aE _) (by rw [aI, aI]) (aY _) ?_))
 refine bodyPost_ret (v := .agg (cpc (PR k))) (results_cell_row results11 _ _ (w.heap.size + 1) 31 _ (0, 0) _ (by rfl) (setRow_heap _ _ _ _ _ _ HO1.out.r) underlying31 (by rfl) (aE _)) rfl ⟨rfl, L1, HP6.out.row HO1.out.n HO1.out.ge _⟩
theorem yB (a : Acd) (w : World) : Calls prog 13 #[.agg (acc a)] w fun e w' => e = .returned (.int .i64 (wdt a)) ∧ Below w.heap.size w w' := by
 obtain ⟨W0, hW0, r0, b0, s0⟩ := dO w (acc a) 44
 have c0 : W0.cell? ⟨w.heap.size, 0, none⟩ = some (.int .i64 a.kd) := r0.out.cell 0
 have c1 : W0.cell? ⟨w.heap.size, 1, none⟩ = some (.int .i64 a.sz) := r0.out.cell 1
 have c2 : W0.cell? ⟨w.heap.size, 2, none⟩ = some (.int .i64 a.op) := r0.out.cell 2
 clear s0
 by_cases h6 : a.kd = 6
 ·rw [h6] at c0
  by_cases h8 : 86 ≤ a.op
  ·have HE : Hid (wdt a = 8) := by unfold Hid wdt; rw [if_pos h6, if_pos h8]
   go_enter func13, ntmps13
   go_upto_region 1 with fail
   clear hW0
   go_wp2
   go_ret
   exact ⟨by rw [HE.out]; rfl, b0.out⟩
  ·have HE : Hid (wdt a = 4) := by unfold Hid wdt; rw [if_pos h6, if_neg h8]
   go_enter func13, ntmps13
   go_upto_region 1 with fail
   clear hW0
   go_wp2
   go_ret
   exact ⟨by rw [HE.out]; rfl, b0.out⟩
 ·have HE : Hid (wdt a = a.sz) := by unfold Hid wdt; rw [if_neg h6]
  have en : (a.kd != 6) = true := by rw [bne_iff_ne]; exact h6
  go_enter func13, ntmps13
  go_upto_region 1 with fail
  clear hW0
  go_wp2
  go_ret
  exact ⟨by rw [HE.out]; rfl, b0.out⟩
def Rsv (w0 : World) (b gc : Nat) (hd : Bool) (x : BitVec 64) (s : Int) (w : World) : Prop := ∃ K L S, Ky w0 b L S w ∧ Sok S ∧ Ks w0 L w gc (cpc K) 31 ∧ Rv K hd x s
theorem Rsv.later {w0 : World} {b gc : Nat} {hd : Bool} {x : BitVec 64} {s : Int} {w w' : World} (h : Rsv w0 b gc hd x s w) (hb : Below w.heap.size w w') : Rsv w0 b gc hd x s w' := by
 obtain ⟨K, L, S, h1, h2, h3, h4⟩ := h
 exact ⟨K, L, S, h1.later hb, h2, h3.later hb, h4⟩
theorem uX (w : World) : (zeroValue 44).run prog w = .ok (.agg (acc ⟨0, 0, 0, 0#64, 0#64⟩)) w := by kernel_rfl
theorem wU {w : World} {g : Nat} {o : Ot} {t : TypeId} (h : Row w g (otc o) t) : ∀ j v, (rsc o.K.rv o.K.ra o.K.rs)[j]? = some v → w.cell? ⟨g, 86 + j, none⟩ = some v := fun j v hv => by
 rw [h.cell]
 match j, hv with
 | 0, hv => rw [cV _ _ (by omega)]; exact hv
 | 1, hv => rw [cV _ _ (by omega)]; exact hv
 | 2, hv => rw [cV _ _ (by omega)]; exact hv
 | j + 3, hv => cases hv
theorem yJ (K : Cp) (S : St) (ar ai ao : Option Addr) (cr ci co : Nat) (O : List Acd) (va : Value) (w : World) (hT : Tb w) (hs : Bs S (.slice ar S.ram.length cr) (.slice ai S.inp.length ci) (.slice ao S.out.length co) w) (hw : StW S) (lr : S.ram.length ≤ 140737488355328) (li : S.inp.length ≤ 140737488355328) (lo : S.out.length ≤ 140737488355328) (ha : uZ w va O) (hl : O.length ≤ 140737488355328) (hok : S.ok = false) :
  Calls prog 3 #[.agg (scc K S (.slice ar S.ram.length cr) (.slice ai S.inp.length ci) (.slice ao S.out.length co) va)] w fun e w' => e = .returned (.bool true) ∧ Below w.heap.size w w' := by
 obtain ⟨W0, hW0, r0, b0, s0⟩ := dO w (scc K S (.slice ar S.ram.length cr) (.slice ai S.inp.length ci) (.slice ao S.out.length co) va) 38
 have HSB : Hid (∀ W, Below W0.heap.size W0 W → ∀ j v, (stc S (.slice ar S.ram.length cr) (.slice ai S.inp.length ci) (.slice ao S.out.length co))[j]? = some v → W.cell? ⟨w.heap.size, 82 + j, none⟩ = some v) := fun W hb j v h => by rw [(r0.out.later hb r0.out.lt).cell]; exact yM _ _ _ _ _ _ j v h
 have HLV : Hid (∀ W, Tb W → Calls prog 10 #[] W fun e w' => e = .returned (.bool true) ∧ Below W.heap.size W w') := fun W h => sV W h
 have HT0 : Hid (Tb W0) := hT.next b0.out
 have HST : Hid (∀ W, Calls prog 9 #[.agg (stc S (.slice ar S.ram.length cr) (.slice ai S.inp.length ci) (.slice ao S.out.length co))] W fun e w' => e = .returned (.pointer none) ∧ Below W.heap.size W w') := fun W => uC S ar ai ao cr ci co W hok
 clear hs hw lr li lo ha hl hok s0 hT
 go_enter func3, ntmps3
 go_upto_region 1 with fail
 clear hW0 r0
 go_wp2_with (first | (refine aT (by rfl) _ _ (by rfl) w.heap.size 82 (by rfl) (stc S (.slice ar S.ram.length cr) (.slice ai S.inp.length ci) (.slice ao S.out.length co)) _ (HSB.out _ (Below.refl _ _)) underlying35 (by rfl) (gD _ _ _ _) ?_) | (go_at_call 9; refine (HST.out _).mono ?_; rintro e w1 ⟨rfl, hb1⟩; have HB1 := hid hb1; clear hb1) | (go_at_call 10; refine (HLV.out _ (HT0.out.next HB1.out)).mono ?_; rintro e w3 ⟨rfl, hb3⟩; have HB3 : Hid (Below W0.heap.size W0 w3) := HB1.out.trans (hb3.mono HB1.out.size); clear hb3))
 go_ret
 exact ⟨rfl, b0.out.trans (HB3.out.mono b0.out.size)⟩
theorem yK (K : Cp) (S : St) (ar ai ao : Option Addr) (cr ci co : Nat) (O : List Acd) (va : Value) (w : World) (hT : Tb w) (hs : Bs S (.slice ar S.ram.length cr) (.slice ai S.inp.length ci) (.slice ao S.out.length co) w) (hw : StW S) (lr : S.ram.length ≤ 140737488355328) (li : S.inp.length ≤ 140737488355328) (lo : S.out.length ≤ 140737488355328) (ha : uZ w va O) (hl : O.length ≤ 140737488355328) (hok : S.ok = true) :
  Calls prog 3 #[.agg (scc K S (.slice ar S.ram.length cr) (.slice ai S.inp.length ci) (.slice ao S.out.length co) va)] w fun e w' => e = .returned (.bool true) ∧ Below w.heap.size w w' := by
 obtain ⟨W0, hW0, r0, b0, s0⟩ := dO w (scc K S (.slice ar S.ram.length cr) (.slice ai S.inp.length ci) (.slice ao S.out.length co) va) 38
 have HSB : Hid (∀ W, Below W0.heap.size W0 W → ∀ j v, (stc S (.slice ar S.ram.length cr) (.slice ai S.inp.length ci) (.slice ao S.out.length co))[j]? = some v → W.cell? ⟨w.heap.size, 82 + j, none⟩ = some v) := fun W hb j v h => by rw [(r0.out.later hb r0.out.lt).cell]; exact yM _ _ _ _ _ _ j v h
 have HLV : Hid (∀ W, Tb W → Calls prog 10 #[] W fun e w' => e = .returned (.bool true) ∧ Below W.heap.size W w') := fun W h => sV W h
 have HT0 : Hid (Tb W0) := hT.next b0.out
 have HSC : Hid (∀ W, Below W0.heap.size W0 W → ∀ j v, (cpc K)[j]? = some v → W.cell? ⟨w.heap.size, 0 + j, none⟩ = some v) := fun W hb j v h => by rw [(r0.out.later hb r0.out.lt).cell]; exact EQ _ _ _ _ _ _ j v h
 have HSA : Hid (∀ W, Below W0.heap.size W0 W → W.cell? ⟨w.heap.size, 97, none⟩ = some va) := fun W hb => by rw [(r0.out.later hb r0.out.lt).cell]; exact EP _ _ _ _ _ _
 have HST : Hid (Calls prog 9 #[.agg (stc S (.slice ar S.ram.length cr) (.slice ai S.inp.length ci) (.slice ao S.out.length co))] W0 fun e w' => ∃ L, e = .returned (.pointer (some ⟨L.b, 0, none⟩)) ∧ PB W0.heap.size L S w' ∧ Below W0.heap.size W0 w') := uD S ar ai ao cr ci co W0 hok (hs.later b0.out) lr li lo
 have HSK : Hid (Sok S) := ⟨hok, hw⟩
 obtain ⟨aA, cA, rfl, hcap, hel⟩ := ha
 have HEL : Hid (∀ j, j < O.length → ∃ g off, aA = some ⟨g, off, none⟩ ∧ g < W0.heap.size ∧ ∀ i, i < 5 → ∀ W, Below W0.heap.size W0 W → W.cell? ⟨g, off + j * 5 + i, none⟩ = (acc (O.getD j ⟨0, 0, 0, 0#64, 0#64⟩))[i]?) := fun j hj => by
  obtain ⟨g, off, e, hg, hc⟩ := hel (fun e => by rw [e] at hj; simp at hj)
  refine ⟨g, off, e, Nat.lt_of_lt_of_le hg b0.out.size, fun i hi W hb => ?_⟩
  rw [hb.cell (p := ⟨g, off + j * 5 + i, none⟩) (Nat.lt_of_lt_of_le hg b0.out.size), b0.out.cell (p := ⟨g, off + j * 5 + i, none⟩) hg]
  exact hc j hj i hi
 have HL0 := hid hl
 have hzc := dM
 have hza := uX
 have hzo := kA
 clear hs hw lr li lo hok s0 hT hel hcap hl
 go_enter func3, ntmps3
 go_upto_region 1 with fail
 clear hW0 r0
 go_upto_region 4 with (first | (refine aT (by rfl) _ _ (by rfl) w.heap.size 82 (by rfl) (stc S (.slice ar S.ram.length cr) (.slice ai S.inp.length ci) (.slice ao S.out.length co)) _ (HSB.out _ (Below.refl _ _)) underlying35 (by rfl) (gD _ _ _ _) ?_) | (go_at_call 9; refine HST.out.mono ?_; rintro e w1 ⟨L, rfl, hp1, hb1⟩; have HK1 : Hid (Ky W0 L.b L S w1) := ⟨hp1, rfl, hb1⟩; clear hp1 hb1) | (go_at_call 10; refine (HLV.out _ (HT0.out.next HK1.out.be)).mono ?_; rintro e w3 ⟨rfl, hb3⟩; have HK3 : Hid (Ky W0 L.b L S w3) := HK1.out.later hb3; clear hb3))
 have HA0 : Hid (Calls prog 11 #[.agg (cpc K), .pointer (some ⟨L.b, 0, none⟩)] w3 fun e w' => e = .returned (.agg (cpc (PR K))) ∧ ∃ L', PSt W0.heap.size L w3 L' S w') := pG w3 HK3.out.p HSK.out (HT0.out.next HK3.out.be) HT0.out.lt K
 go_upto_region 5 with (first | (refine aT (by rfl) _ _ (by rfl) w.heap.size 0 (by rfl) (cpc K) _ (HSC.out _ HK3.out.be) underlying31 (by rfl) (aE _) ?_) | (go_at_call 11; refine HA0.out.mono ?_; rintro e w4 ⟨rfl, L1, hp4⟩; have HK4 : Hid (Ky W0 L.b L1 S w4) := HK3.out.step hp4; clear hp4) | (refine aK (by rfl) 31 _ _ (by rfl) (by rfl) (cpc cz) (cpc (PR K)) (by rfl) (by rfl) (aE _) (by rw [aI, aI]) (aY _) ?_))
 refine bK (motive := fun W => Code.wp _ _ _ _ W) (Q := fun W => Ky W0 L.b L1 S W ∧ Ks W0 L1 W w4.heap.size (cpc (PR K)) 31) ⟨HK4.out.later (aF _ _), Ks.new HK4.out _ _⟩ ?_
 clear HK1 HK3 HK4 HA0 HSB HSC HST HLV
 generalize w4.heap.size = gc
 rintro W5 ⟨hk5, hr5⟩
 have HK5 := hid hk5
 have HR5 := hid hr5
 clear hk5 hr5
 go_upto_region 6 with (first | (refine aH (by rfl) 29 _ (by rfl) (rsc false 0#64 0) (by kernel_rfl) ?_) | (refine aO (by rfl) _ _ _ (by rfl) (by rfl) gc 79 _ (by rfl) (by rfl) (HR5.out.r.there (by rw [aI]; show 79 + 3 ≤ 82; omega)) (bJ _ _ _) (cE _ _ _) ?_))
 refine bK (motive := fun W => Code.wp _ _ _ _ W) (Q := fun W => Rsv W0 L.b gc false 0#64 0 W) ⟨bL (PR K), L1, S, HK5.out.lay HR5.out 79 _, HSK.out, ⟨by have q := HR5.out.r.lay (rsc false 0#64 0).toList 79; rw [show (rsc false 0#64 0).toList = [.bool false, .int .u64 (n64 0#64), .int .i64 0] from rfl, dP] at q; exact q, HR5.out.n, HR5.out.ge⟩, ⟨iO (kH K), rfl, fun q => by cases q⟩⟩ ?_
 clear HK5 HR5 HSK
 generalize L.b = b
 clear L1 L w1 w3 w4
 intro U hU
 have HU : Hid (Rsv W0 b gc false 0#64 0 U) := hU
 clear hU W5
 go_wp2
 go_loopw [5, 6, 7, 8] (fun vb vx vs vi wr => ∃ (hd : Bool) (x : BitVec 64) (s : Int) (j : Nat), j ≤ O.length ∧ vb = .bool hd ∧ vx = .int .u64 (n64 x) ∧ vs = .int .i64 s ∧ vi = .int .i64 j ∧ Hid (Rsv W0 b gc hd x s wr)) (fun _ _ _ i _ => O.length - (intOf i).toNat)
 case atStart => exact ⟨false, 0#64, 0, 0, Nat.zero_le _, rfl, rfl, rfl, rfl, HU⟩
 case round =>
  obtain ⟨hd, x, s, j, hj, rfl, rfl, rfl, rfl, hst⟩ := hrel
  clear HU
  obtain ⟨K1, L1, S1, hk, hsk, hr, hrv⟩ := hst.out
  have c97 := HSA.out wr hk.be
  have hlenI : (O.length : Int) ≤ 140737488355328 := by have := HL0.out; omega
  by_cases hlt : j < O.length
  ·have hltI : (j : Int) < (O.length : Int) := by omega
   by_cases h60 : j < 60
   ·have h60I : (j : Int) < 60 := by omega
    have HKX := hid hk
    have HSO := hid hsk
    have HRC := hid hr
    have HRV := hid hrv
    clear hk hsk hr hst hrv
    obtain ⟨ga, off, rfl, hga, hcell⟩ := HEL.out j hlt
    obtain ⟨y, hy⟩ : ∃ y, y = O.getD j ⟨0, 0, 0, 0#64, 0#64⟩ := ⟨_, rfl⟩
    have HAC : Hid (∀ W, Below W0.heap.size W0 W → ∀ i v, (acc y)[i]? = some v → W.cell? ⟨ga, off + j * 5 + i, none⟩ = some v) := fun W hb i v h => by
     have hi : i < 5 := by
      by_cases q : i < 5
      ·exact q
      ·rw [Array.getElem?_eq_none (by show 5 ≤ i; omega)] at h; cases h
     rw [hcell i hi W hb, ← hy]; exact h
    clear hcell hy hga
    have HDC : Hid (∀ W, Ky W0 b L1 S1 W → Calls prog 12 #[.agg (cpc K1), .pointer (some ⟨b, 0, none⟩), .agg (acc y)] W fun e w' => e = .returned (.agg (otc (DO S1 K1 y).1)) ∧ ∃ L', PSt W0.heap.size L1 W L' (DO S1 K1 y).2 w') := fun W hk => by
     have q := zG W hk.p HSO.out (HT0.out.next hk.be) HT0.out.lt K1 y
     rw [hk.e] at q
     exact q
    have HSOK : Hid (Sok (DO S1 K1 y).2) := CU HSO.out K1 y
    have HTR : Hid ((DO S1 K1 y).1.t.is = true → cH K1 (DO S1 K1 y).1.K = K1) := xJ HRV.out.p
    have H4 : Hid ((DO S1 K1 y).1.t.is = false → y.kd = 4 → Rv (cH K1 (DO S1 K1 y).1.K) true y.ad y.sz) := fun h hk => rv_4 HSO.out HRV.out hk h
    have H5 : Hid ((DO S1 K1 y).1.t.is = false → y.kd = 5 → (DO S1 K1 y).1.ok = (hd && (decide (x = y.ad) && decide (s = y.sz))) ∧ Rv (cH K1 (DO S1 K1 y).1.K) false x s) := fun h hk => rv_5 HRV.out hk h
    have H36 : Hid ((DO S1 K1 y).1.t.is = false → (y.kd = 3 ∨ y.kd = 6) → Rv (cH K1 (DO S1 K1 y).1.K) (hd && !(decide (n64 y.ad < IntKind.u64.wrap (n64 x + IntKind.u64.wrap s)) && decide (n64 x < IntKind.u64.wrap (n64 y.ad + IntKind.u64.wrap (wdt y))))) x s) := fun h hk => EO HRV.out hk h
    have HEE : Hid (¬ y.kd = 3 → ¬ y.kd = 4 → ¬ y.kd = 5 → ¬ y.kd = 6 → cH K1 (DO S1 K1 y).1.K = K1) := fun h3 h4 h5 h6 => xI h3 h4 h5 h6
    have HWD : Hid (∀ W, Calls prog 13 #[.agg (acc y)] W fun e w' => e = .returned (.int .i64 (wdt y)) ∧ Below W.heap.size W w') := fun W => yB y W
    generalize (DO S1 K1 y).1 = o at HDC HTR H4 H5 H36 HEE
    generalize (DO S1 K1 y).2 = S2 at HDC HSOK
    go_upto_region 13 with (first | (refine aT (by rfl) _ _ (by rfl) ga (off + j * 5) (by rfl) (acc y) _ (HAC.out _ HKX.out.be) underlying44 (by rfl) (fG _) ?_) | (refine aK (by rfl) 44 _ _ (by rfl) (by rfl) (acc ⟨0, 0, 0, 0#64, 0#64⟩) (acc y) (by rfl) (by rfl) (fG _) (by rfl) (by kernel_rfl) ?_))
    clear c97
    refine bK (motive := fun W => Code.wp _ _ _ _ W) (Q := fun W => Ky W0 b L1 S1 W ∧ Ks W0 L1 W gc (cpc K1) 31 ∧ Ks W0 L1 W wr.heap.size (acc y) 44 ∧ gc < wr.heap.size) ⟨HKX.out.later (aF _ _), HRC.out.later (aF _ _), Ks.new HKX.out _ _, HRC.out.r.lt⟩ ?_
    clear HKX HRC HAC
    generalize wr.heap.size = gy
    rintro W1 ⟨hk1, hc1, hy1, hn1⟩
    have HKX := hid hk1
    have HRC := hid hc1
    have HRY := hid hy1
    have HN1 := hid hn1
    clear hk1 hc1 hy1 hn1
    go_upto_region 14 with (first | (refine wpList_load_row (by rfl) _ _ (by rfl) _ (by rfl) 31 _ (0, 0) _ HRC.out.r underlying31 (by rfl) (aE _) ?_) | (refine wpList_load_row (by rfl) _ _ (by rfl) _ (by rfl) 44 _ (0, 0) _ HRY.out.r underlying44 (by rfl) (fG _) ?_) | (go_at_call 12; refine (HDC.out _ HKX.out).mono ?_; rintro e w3 ⟨rfl, L2, hp3⟩; have HP3 := hid hp3; clear hp3) | (refine aK (by rfl) 48 _ _ (by rfl) (by rfl) (otc (oz cz)) (otc o) (by rfl) (by rfl) (bF _) (dR _ _) (cF _) ?_))
    refine bK (motive := fun W => Code.wp _ _ _ _ W) (Q := fun W => Ky W0 b L2 S2 W ∧ Ks W0 L2 W gc (cpc K1) 31 ∧ Ks W0 L2 W gy (acc y) 44 ∧ Ks W0 L2 W w3.heap.size (otc o) 48 ∧ gy < w3.heap.size) ⟨(HKX.out.step HP3.out).later (aF _ _), (HRC.out.step HP3.out).later (aF _ _), (HRY.out.step HP3.out).later (aF _ _), Ks.new (HKX.out.step HP3.out) _ _, (HRY.out.step HP3.out).r.lt⟩ ?_
    clear HKX HRC HRY HP3 HDC
    generalize w3.heap.size = go
    rintro W2 ⟨hk1, hc1, hy1, ho1, hn1⟩
    have HKX := hid hk1
    have HRC := hid hc1
    have HRY := hid hy1
    have HRO := hid ho1
    have HN2 := hid hn1
    clear hk1 hc1 hy1 ho1 hn1
    --@CUT1
    go_upto_region 15 with (first | (refine aT (by rfl) _ _ (by rfl) go 86 (by rfl) (rsc o.K.rv o.K.ra o.K.rs) _ (wU HRO.out.r) underlying29 (by rfl) (bJ _ _ _) ?_) | (refine aO (by rfl) _ _ _ (by rfl) (by rfl) gc 79 _ (by rfl) (by rfl) (HRC.out.r.there (by rw [aI]; show 79 + 3 ≤ 82; omega)) (bJ _ _ _) (cE _ _ _) ?_))
    refine bK (motive := fun W => Code.wp _ _ _ _ W) (Q := fun W => Ky W0 b L2 S2 W ∧ Ks W0 L2 W gc (cpc (cH K1 o.K)) 31 ∧ Row W gy (acc y) 44 ∧ Row W go (otc o) 48) ⟨HKX.out.lay HRC.out 79 _, ⟨by have q := HRC.out.r.lay (rsc o.K.rv o.K.ra o.K.rs).toList 79; rw [show (rsc o.K.rv o.K.ra o.K.rs).toList = [.bool o.K.rv, .int .u64 (n64 o.K.ra), .int .i64 o.K.rs] from rfl, dP] at q; exact q, HRC.out.n, HRC.out.ge⟩, HRY.out.r.lays (by have := HN1.out; omega) _ _, HRO.out.r.lays (by have := HN1.out; have := HN2.out; omega) _ _⟩ ?_
    clear HKX HRC HRY HRO
    rintro W3 ⟨hk1, hc1, hy1, ho1⟩
    have HKX := hid hk1
    have HRC := hid hc1
    have HRY := hid hy1
    have y0 : W3.cell? ⟨gy, 0, none⟩ = some (.int .i64 y.kd) := hy1.cell 0
    have y1 : W3.cell? ⟨gy, 1, none⟩ = some (.int .i64 y.sz) := hy1.cell 1
    have y3 : W3.cell? ⟨gy, 3, none⟩ = some (.int .u64 (n64 y.ad)) := hy1.cell 3
    have o3 : W3.cell? ⟨go, 3, none⟩ = some (.bool o.ok) := (by rw [ho1.cell, cV _ _ (by omega)]; rfl)
    have o4 : W3.cell? ⟨go, 4, none⟩ = some (.bool o.t.is) := (by rw [ho1.cell, cV _ _ (by omega)]; rfl)
    clear hk1 hc1 hy1 ho1
    have HNX : Hid (∀ hd2 x2 s2, Rv (cH K1 o.K) hd2 x2 s2 → Rsv W0 b gc hd2 x2 s2 W3) := fun hd2 x2 s2 h => ⟨_, L2, S2, HKX.out, HSOK.out, HRC.out, h⟩
    obtain ⟨q, hq⟩ : ∃ q, q = o.t.is := ⟨_, rfl⟩
    rw [← hq] at o4 HTR H4 H5 H36
    clear hq
    cases q with
    | true =>
     have HN : Hid (Rsv W0 b gc hd x s W3) := HNX.out _ _ _ (by rw [HTR.out rfl]; exact HRV.out)
     clear HNX HTR H4 H5 H36 HEE
     go_wp2
     go_roundw
     ·exact ⟨hd, x, s, j + 1, by omega, rfl, rfl, rfl, by go_num, HN⟩
     ·simp only [intOf]; omega
    | false =>
     by_cases k4 : y.kd = 4
     ·rw [k4] at y0
      have HN : Hid (Rsv W0 b gc true y.ad y.sz W3) := HNX.out _ _ _ (H4.out rfl k4)
      clear HNX HTR H4 H5 H36 HEE
      go_wp2
      go_roundw
      ·exact ⟨true, y.ad, y.sz, j + 1, by omega, rfl, rfl, rfl, by go_num, HN⟩
      ·simp only [intOf]; omega
     by_cases k5 : y.kd = 5
     ·rw [k5] at y0
      obtain ⟨eo, hv⟩ := H5.out rfl k5
      rw [eo] at o3
      have HN : Hid (Rsv W0 b gc false x s W3) := HNX.out _ _ _ hv
      clear HNX HTR H4 H5 H36 HEE eo hv
      cases hd with
      | false =>
       have o3b : W3.cell? ⟨go, 3, none⟩ = some (.bool false) := o3
       clear o3
       go_wp2
       go_roundw
       ·exact ⟨false, x, s, j + 1, by omega, rfl, rfl, rfl, by go_num, HN⟩
       ·simp only [intOf]; omega
      | true =>
       by_cases hx : x = y.ad
       ·have en : (n64 x == n64 y.ad) = true := by rw [hx]; simp
        by_cases hs : s = y.sz
        ·have es : (s == y.sz) = true := by rw [hs]; simp
         have o3b : W3.cell? ⟨go, 3, none⟩ = some (.bool true) := by rw [o3, decide_eq_true hx, decide_eq_true hs]; rfl
         clear o3 hx hs
         go_wp2
         go_roundw
         ·exact ⟨false, x, s, j + 1, by omega, rfl, rfl, rfl, by go_num, HN⟩
         ·simp only [intOf]; omega
        ·have es : (s == y.sz) = false := by rw [beq_eq_false_iff_ne]; exact hs
         have o3b : W3.cell? ⟨go, 3, none⟩ = some (.bool false) := by rw [o3, decide_eq_false hs, Bool.and_false, Bool.and_false]
         clear o3 hx hs
         go_wp2
         go_roundw
         ·exact ⟨false, x, s, j + 1, by omega, rfl, rfl, rfl, by go_num, HN⟩
         ·simp only [intOf]; omega
       ·have en : (n64 x == n64 y.ad) = false := by rw [beq_eq_false_iff_ne]; exact fun e => hx (dC.1 e)
        have o3b : W3.cell? ⟨go, 3, none⟩ = some (.bool false) := by rw [o3, decide_eq_false hx, Bool.false_and, Bool.and_false]
        clear o3 hx
        go_wp2
        go_roundw
        ·exact ⟨false, x, s, j + 1, by omega, rfl, rfl, rfl, by go_num, HN⟩
        ·simp only [intOf]; omega
     by_cases k3 : y.kd = 3 ∨ y.kd = 6
     ·have HN : Hid (Rsv W0 b gc (hd && !(decide (n64 y.ad < IntKind.u64.wrap (n64 x + IntKind.u64.wrap s)) && decide (n64 x < IntKind.u64.wrap (n64 y.ad + IntKind.u64.wrap (wdt y))))) x s W3) := HNX.out _ _ _ (H36.out rfl k3)
      clear HNX HTR H4 H5 H36 HEE
      have hltY : Hid (gy < W3.heap.size) := HRY.out.lt
      have HLY : Hid (∀ j v, (acc y)[j]? = some v → W3.cell? ⟨gy, 0 + j, none⟩ = some v) := HRY.out.agg
      have hlY : ∀ x : bR W3, x.1.cell? ⟨gy, 3, none⟩ = some (.int .u64 (n64 y.ad)) := fun x9 => (x9.below.cell (p := ⟨gy, 3, none⟩) hltY.out).trans y3
      generalize wdt y = wd at HN HWD
      rcases k3 with k3 | k3
      all_goals rw [k3] at y0
      all_goals go_upto_region 27 with fail
      all_goals (
       have := aX W3
       by_cases t1 : n64 y.ad < IntKind.u64.wrap (n64 x + IntKind.u64.wrap s)
       ·have d1 : decide (n64 y.ad < IntKind.u64.wrap (n64 x + IntKind.u64.wrap s)) = true := decide_eq_true t1
        obtain ⟨T2, hT2⟩ : ∃ T2, decide (n64 x < IntKind.u64.wrap (n64 y.ad + IntKind.u64.wrap wd)) = T2 := ⟨_, rfl⟩
        rw [d1, hT2, Bool.true_and] at HN
        refine eY (x0 := bR.start W3) (by kernel_rfl) (by kernel_rfl) ?_
        repeat (first | (refine BigFrame.wpQuiet_want (by rfl) fun KK hK => ?_; refine aV 44 _ (by rfl) gy 0 (by rfl) (acc y) _ hltY.out HLY.out underlying44 (by rfl) (fG _) (hK _ ?_); clear hK KK; simp only [Act.put, List.setIfInBounds_toArray, List.set_cons_succ, List.set_cons_zero]) | (go_big_quiet_step (first | (go_at_call 13; exact fB (HWD.out _)))))
        refine wpQuiet_nil ?_
        rintro w' ⟨x9, rfl⟩
        have HN9 : Hid (Rsv W0 b gc (hd && !T2) x s x9.1) := HN.out.later x9.below
        cases T2 with
        | true =>
         rw [Bool.not_true, Bool.and_false] at HN9
         go_wp2
         go_roundw
         ·exact ⟨false, x, s, j + 1, by omega, rfl, rfl, rfl, by go_num, HN9⟩
         ·simp only [intOf]; omega
        | false =>
         rw [Bool.not_false, Bool.and_true] at HN9
         go_wp2
         go_roundw
         ·exact ⟨hd, x, s, j + 1, by omega, rfl, rfl, rfl, by go_num, HN9⟩
         ·simp only [intOf]; omega
       ·have d1 : decide (n64 y.ad < IntKind.u64.wrap (n64 x + IntKind.u64.wrap s)) = false := decide_eq_false t1
        rw [d1, Bool.false_and, Bool.not_false, Bool.and_true] at HN
        refine eY (x0 := bR.start W3) (by kernel_rfl) (by kernel_rfl) ?_
        repeat (go_big_quiet_step (fail))
        refine wpQuiet_nil ?_
        rintro w' ⟨x9, rfl⟩
        have HN9 : Hid (Rsv W0 b gc hd x s x9.1) := HN.out.later x9.below
        go_wp2
        go_roundw
        ·exact ⟨hd, x, s, j + 1, by omega, rfl, rfl, rfl, by go_num, HN9⟩
        ·simp only [intOf]; omega)
     ·have n3 : ¬ y.kd = 3 := fun e => k3 (.inl e)
      have n6 : ¬ y.kd = 6 := fun e => k3 (.inr e)
      have HN : Hid (Rsv W0 b gc hd x s W3) := HNX.out _ _ _ (by rw [HEE.out n3 k4 k5 n6]; exact HRV.out)
      clear HNX HTR H4 H5 H36 HEE k3
      have e3 : (y.kd == 3) = false := by rw [beq_eq_false_iff_ne]; exact n3
      have e4 : (y.kd == 4) = false := by rw [beq_eq_false_iff_ne]; exact k4
      have e5 : (y.kd == 5) = false := by rw [beq_eq_false_iff_ne]; exact k5
      have e6 : (y.kd == 6) = false := by rw [beq_eq_false_iff_ne]; exact n6
      go_wp2
      go_roundw
      ·exact ⟨hd, x, s, j + 1, by omega, rfl, rfl, rfl, by go_num, HN⟩
      ·simp only [intOf]; omega
   ·have h60I : ¬ ((j : Int) < 60) := by omega
    go_wp2
    go_ret
    exact ⟨rfl, b0.out.trans (hk.be.mono b0.out.size)⟩
  ·obtain rfl : j = O.length := by omega
   have hltI : ¬ ((O.length : Int) < (O.length : Int)) := by omega
   go_wp2
   go_ret
   exact ⟨rfl, b0.out.trans (hk.be.mono b0.out.size)⟩
end Go.Proofs.YtdpfjhacmlnklaaGreatDoor
