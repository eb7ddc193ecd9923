import Derived.Test.YtddlmenfcbjoaaaGreatDoorK21
import Derived.Test.YtddlmenfcbjoaaaGreatDoorK26
import Derived.Test.YtddlmenfcbjoaaaGreatDoorK08
import Derived.Test.YtddlmenfcbjoaaaGreatDoorK17
import Derived.Test.YtddlmenfcbjoaaaGreatDoorK02
import Derived.Test.YtddlmenfcbjoaaaGreatDoorK14
import Derived.Test.YtddlmenfcbjoaaaGreatDoorK03
import Derived.Test.YtddlmenfcbjoaaaGreatDoorK23
namespace Go.Proofs.YtddlmenfcbjoaaaGreatDoor
set_option linter.unusedVariables false
set_option maxRecDepth 100000
set_option maxHeartbeats 8000000
open Go.ChangeShapes Go.WideShapes Go.ChangeAt Go.RowKit Go.Deep _root_.Go.Proofs.Tryz
theorem jB {motive : World → Prop} {w : World} {Q : World → Prop} (hq : Q w) (h : ∀ W, Q W → motive W) : motive w := h w hq
theorem cS {P : Program} {ops : Array Oper} {rest : List Oper} {o : Oper} {a : Act} {w' : World} {Q : Exit → Act → World → Prop} (hgd : o.guard = none) (t : TypeId) (x y : Operand) (ho : o.op = .store t x y) (hd : o.dst = none)
  (w : World) (c c' : Array Value) (hw : w' = w.alloc (.cells c t)) (hx : a.eval x = .pointer (some ⟨w.heap.size, 0, none⟩)) (hy : a.eval y = .agg c') (hi : (P.info? t).map (·.size) = some c'.size) (hs : c.size = c'.size) (h1 : c'.all (·.oneCell') = true)
  (h : wpList P ops Q rest a (w.alloc (.cells c' t))) : wpList P ops Q (o :: rest) a w' := by
 subst hw
 exact aK hgd t x y ho hd c c' hx hy hi hs h1 h
theorem Row.ca {W w1 : World} {g : Nat} {cs : Array Value} {t : TypeId} (h : Row W g cs t) (B : Below W.heap.size W w1) (o : Obj) : Row (w1.alloc o) g cs t :=
 (h.later B h.lt).old (ZqS h.lt B.size) o
theorem Row.cb {W w1 : World} {g : Nat} {cs : Array Value} {t : TypeId} (h : Row W g cs t) (B : Below W.heap.size W w1) : Row w1 g cs t := h.later B h.lt
structure Sta (a b : Cp) : Prop where
 pc : a.pc = b.pc
 x : a.x = b.x
 md : a.md = b.md
 wt : a.wt = b.wt
 rv : a.rv = b.rv
 ra : a.ra = b.ra
 rs : a.rs = b.rs
theorem Sta.refl (a : Cp) : Sta a a := ⟨rfl, rfl, rfl, rfl, rfl, rfl, rfl⟩
theorem RM {c : Prop} [Decidable c] {a b k : Cp} (ha : Sta a k) (hb : Sta b k) : Sta (if c then a else b) k := by split <;> assumption
theorem UG (k : Cp) (n : Int) (v : BitVec 64) : Sta (KW k n v) k := by
 unfold KW
 iterate 15 (refine RM ⟨rfl, rfl, rfl, rfl, rfl, rfl, rfl⟩ ?_)
 exact Sta.refl k
theorem UL {a b : Cp} (h : Sta a b) : Sta (PR a) (PR b) := by
 obtain ⟨h1, h2, h3, h4, h5, h6, h7⟩ := h
 unfold PR
 constructor
 ·show a.pc &&& _ = b.pc &&& _; rw [h1]
 ·show upd a.x _ _ = upd b.x _ _; rw [h2]
 ·show (if a.md = 3 then (3 : Int) else 0) = if b.md = 3 then 3 else 0; rw [h3]
 ·exact h4
 ·show rok a.rv a.ra a.rs = rok b.rv b.ra b.rs; rw [h5, h6, h7]
 ·show (if rok a.rv a.ra a.rs then a.ra else 0#64) = if rok b.rv b.ra b.rs then b.ra else 0#64; rw [h5, h6, h7]
 ·show (if rok a.rv a.ra a.rs then a.rs else 0) = if rok b.rv b.ra b.rs then b.rs else 0; rw [h5, h6, h7]
theorem UP (k : Cp) (n : Int) (v : BitVec 64) : Sta (WR k n v) (PR k) := by
 unfold WR
 split
 ·have h := UL (UG (PR k) n v)
  rwa [fR] at h
 ·exact Sta.refl _
theorem PR_WR (k : Cp) (n : Int) (v : BitVec 64) : PR (WR k n v) = WR k n v := by
 unfold WR
 split
 ·exact fR _
 ·exact fR _
def tp (n : Nat) : BitVec 64 := BitVec.twoPow 64 n
theorem nS (n i : Nat) (hn : n < 64) (hi : i < 64) : (tp n).getLsbD i = decide (i = n) := by
 unfold tp
 rw [BitVec.getLsbD_twoPow]
 by_cases h : i = n
 ·subst h; simp [hi]
 ·simp [h, Ne.symm h]
def sB (v : BitVec 64) (n : Nat) (on : Bool) : BitVec 64 := if on then v ||| tp n else v &&& ~~~tp n
theorem gJ (v : BitVec 64) (n i : Nat) (hn : n < 64) (hi : i < 64) (on : Bool) : (sB v n on).getLsbD i = if i = n then on else v.getLsbD i := by
 unfold sB
 cases on with
 | true =>
  rw [if_pos rfl, BitVec.getLsbD_or, nS n i hn hi]
  by_cases h : i = n <;> simp [h]
 | false =>
  rw [if_neg (by decide), BitVec.getLsbD_and, BitVec.getLsbD_not, nS n i hn hi]
  by_cases h : i = n <;> simp [h, hi]
def mpB (v : BitVec 64) : Int := if v.getLsbD 11 then 3 else 0
def wB (v : BitVec 64) (m : Int) : BitVec 64 := sB (sB v 11 (m == 3)) 12 (m == 3)
def stp (K : Cp) : Bool := decide (K.md = 0) && (K.s 0).getLsbD 21
def WTc (k : Cp) : Cp := if stp (PR k) then PR k else { PR k with wt := true }
def WTk (k : Cp) : Bool := !stp (PR k)
def rtS (v : BitVec 64) : BitVec 64 := if mpB v = 0 then sB (wB (sB (sB v 3 (v.getLsbD 7)) 7 true) 0) 17 false else wB (sB (sB v 3 (v.getLsbD 7)) 7 true) 0
def RTk (k : Cp) : Bool := decide ((PR k).md = 3)
def RTc (k : Cp) : Cp := if (PR k).md = 3 then { PR k with pc := (PR k).s 7, md := mpB ((PR k).s 0), s := upd (PR k).s 0 (rtS ((PR k).s 0)), rv := false, ra := 0#64, rs := 0 } else PR k
theorem JC (v : BitVec 64) : mpB v = 0 ∨ mpB v = 3 := by unfold mpB; split <;> simp
def enS (v : BitVec 64) (md : Int) : BitVec 64 := wB (sB (sB v 7 (v.getLsbD 3)) 3 false) md
def hbs (tv : BitVec 64) : BitVec 64 := tv - tv % 4#64
def hdl (tv cause : BitVec 64) : BitVec 64 := if (cause.getLsbD 63 && tv.getLsbD 0) = true then hbs tv + 4#64 * (cause - tp 63) else hbs tv
def ENc (k : Cp) (cause tval : BitVec 64) : Cp := { PR k with pc := hdl ((PR k).s 1) cause, md := 3, wt := false, s := upd (upd (upd (upd (PR k).s 7 (PR k).pc) 8 cause) 9 tval) 0 (enS ((PR k).s 0) (PR k).md), rv := false, ra := 0#64, rs := 0 }
def TRt : Prop := ∀ (k : Cp) (W : World), Calls prog 99 #[.agg (cpc k)] W fun e w' => e = .returned (.tuple #[.agg (cpc (RTc k)), .bool (RTk k)]) ∧ Below W.heap.size W w'
def TWt : Prop := ∀ (k : Cp) (W : World), Calls prog 100 #[.agg (cpc k)] W fun e w' => e = .returned (.tuple #[.agg (cpc (WTc k)), .bool (WTk k)]) ∧ Below W.heap.size W w'
theorem AH (w : BitVec 64) (h : w.getLsbD 11 = w.getLsbD 12) : ¬ mq w := by
 have h0 : (w >>> 11 &&& 3#64).getLsbD 0 = w.getLsbD 11 := by rw [BitVec.getLsbD_and, BitVec.getLsbD_ushiftRight]; simp
 have h1 : (w >>> 11 &&& 3#64).getLsbD 1 = w.getLsbD 12 := by
  rw [BitVec.getLsbD_and, BitVec.getLsbD_ushiftRight, show (3#64).getLsbD 1 = true by decide, Bool.and_true]
 unfold mq
 rintro (e | e)
 ·rw [e] at h0 h1
  rw [← h0, ← h1] at h
  revert h; decide
 ·rw [e] at h0 h1
  rw [← h0, ← h1] at h
  revert h; decide
theorem JD (w : BitVec 64) (h : ¬ mq w) : w.getLsbD 11 = w.getLsbD 12 := by
 have h0 : (w >>> 11 &&& 3#64).getLsbD 0 = w.getLsbD 11 := by rw [BitVec.getLsbD_and, BitVec.getLsbD_ushiftRight]; simp
 have h1 : (w >>> 11 &&& 3#64).getLsbD 1 = w.getLsbD 12 := by
  rw [BitVec.getLsbD_and, BitVec.getLsbD_ushiftRight, show (3#64).getLsbD 1 = true by decide, Bool.and_true]
 rw [← h0, ← h1]
 unfold mq at h
 rcases WI (oR (w >>> 11)) with e | e | e | e
 ·rw [e]; decide
 ·exact absurd (Or.inl e) h
 ·exact absurd (Or.inr e) h
 ·rw [e]; decide
theorem BI (x : BitVec 64) : ¬ mq (stB x) := by
 have e : stB x >>> 11 &&& 3#64 = (stB x &&& 2234504#64) >>> 11 &&& 3#64 := (vT _).symm
 unfold mq
 rw [e, BG]
 by_cases h : mq (x &&& 2234504#64)
 ·rw [if_pos h]
  exact TS x
 ·rw [if_neg h]
  exact h
theorem RL : ∀ i, i < 64 → (i = 3 ∨ i = 7 ∨ i = 11 ∨ i = 12 ∨ i = 17 ∨ i = 21) → (2234504#64).getLsbD i = true ∧ (8589934592#64).getLsbD i = false := by decide
theorem BH {v w : BitVec 64} (hv : stB v = v) (hq : ¬ mq w) (h : ∀ i, i < 64 → ¬ (i = 3 ∨ i = 7 ∨ i = 11 ∨ i = 12 ∨ i = 17 ∨ i = 21) → w.getLsbD i = v.getLsbD i) : stB w = w := by
 have hvq : ¬ mq v := by rw [← hv]; exact BI v
 rw [uE, if_neg hvq] at hv
 rw [uE, if_neg hq]
 apply BitVec.eq_of_getLsbD_eq
 intro i hi
 rw [BitVec.getLsbD_or, BitVec.getLsbD_and]
 by_cases hs : i = 3 ∨ i = 7 ∨ i = 11 ∨ i = 12 ∨ i = 17 ∨ i = 21
 ·obtain ⟨h1, h2⟩ := RL i hi hs
  rw [h1, h2]; simp
 ·have e := congrArg (fun z : BitVec 64 => z.getLsbD i) hv
  simp only [BitVec.getLsbD_or, BitVec.getLsbD_and] at e
  rw [h i hi hs]
  exact e
theorem nT (v : BitVec 64) (m : Int) (i : Nat) (hi : i < 64) : (wB v m).getLsbD i = if i = 11 ∨ i = 12 then (m == 3) else v.getLsbD i := by
 unfold wB
 rw [gJ _ 12 i (by decide) hi, gJ _ 11 i (by decide) hi]
 by_cases h1 : i = 12
 ·rw [if_pos h1, if_pos (Or.inr h1)]
 ·rw [if_neg h1]
  by_cases h2 : i = 11
  ·rw [if_pos h2, if_pos (Or.inl h2)]
  ·rw [if_neg h2, if_neg (fun h => h.elim h2 h1)]
theorem tO (v : BitVec 64) (m : Int) (i : Nat) (hi : i < 64) : (enS v m).getLsbD i = if i = 11 ∨ i = 12 then (m == 3) else if i = 3 then false else if i = 7 then v.getLsbD 3 else v.getLsbD i := by
 unfold enS
 rw [nT _ _ i hi, gJ _ 3 i (by decide) hi, gJ _ 7 i (by decide) hi]
theorem VW {v : BitVec 64} (hv : stB v = v) (m : Int) : stB (enS v m) = enS v m := by
 refine BH hv (AH _ ?_) (fun i hi hn => ?_)
 ·rw [tO _ _ 11 (by decide), tO _ _ 12 (by decide), if_pos (Or.inl rfl), if_pos (Or.inr rfl)]
 ·rw [tO _ _ i hi, if_neg (by omega), if_neg (by omega), if_neg (by omega)]
theorem pD (v : BitVec 64) (i : Nat) (hi : i < 64) : (rtS v).getLsbD i = if i = 17 ∧ mpB v = 0 then false else if i = 11 ∨ i = 12 then false else if i = 7 then true else if i = 3 then v.getLsbD 7 else v.getLsbD i := by
 unfold rtS
 by_cases h : mpB v = 0
 ·rw [if_pos h, gJ _ 17 i (by decide) hi, nT _ _ i hi, gJ _ 7 i (by decide) hi, gJ _ 3 i (by decide) hi]
  by_cases h17 : i = 17
  ·rw [if_pos h17, if_pos ⟨h17, h⟩]
  ·rw [if_neg h17, if_neg (show ¬ (i = 17 ∧ mpB v = 0) from fun q => h17 q.1)]
   rfl
 ·rw [if_neg h, nT _ _ i hi, gJ _ 7 i (by decide) hi, gJ _ 3 i (by decide) hi, if_neg (show ¬ (i = 17 ∧ mpB v = 0) from fun q => h q.2)]
  rfl
theorem ZG {v : BitVec 64} (hv : stB v = v) : stB (rtS v) = rtS v := by
 refine BH hv (AH _ ?_) (fun i hi hn => ?_)
 ·rw [pD _ 11 (by decide), pD _ 12 (by decide)]; simp
 ·rw [pD _ i hi, if_neg (by omega), if_neg (by omega), if_neg (by omega), if_neg (by omega)]
theorem OW {x : BitVec 64} (h : x.getLsbD 0 = false) : x &&& ~~~1#64 = x := by
 apply BitVec.eq_of_getLsbD_eq
 intro i hi
 rw [BitVec.getLsbD_and, BitVec.getLsbD_not]
 by_cases e : i = 0
 ·subst e; rw [h]; rfl
 ·have : (1#64).getLsbD i = false := by
   rw [BitVec.getLsbD_one]; simp [e]
  rw [this]; simp [hi]
theorem GS {x : BitVec 64} (h : x.toNat % 2 = 0) : x &&& ~~~1#64 = x := by
 refine OW ?_
 rw [BitVec.getLsbD, Nat.testBit_zero, h]; rfl
theorem IE (tv : BitVec 64) : (hbs tv).toNat % 4 = 0 := by
 have h2 : (tv % 4#64).toNat ≤ tv.toNat := by rw [BitVec.toNat_umod]; exact Nat.mod_le _ _
 unfold hbs
 rw [BitVec.toNat_sub_of_le (by rw [BitVec.le_def]; exact h2), BitVec.toNat_umod]
 have : (4#64).toNat = 4 := rfl
 rw [this]
 omega
theorem IG (tv cause : BitVec 64) : hdl tv cause &&& ~~~1#64 = hdl tv cause := by
 refine GS ?_
 have h4 := IE tv
 unfold hdl
 split
 ·rw [BitVec.toNat_add, BitVec.toNat_mul]
  have : (4#64).toNat = 4 := rfl
  rw [this]
  omega
 ·omega
theorem KC (k : Cp) : stB ((PR k).s 0) = (PR k).s 0 := BJ (k.s 0)
theorem EN_pr (k : Cp) (cause tval : BitVec 64) : PR (ENc k cause tval) = ENc k cause tval := by
 have e : PR (ENc k cause tval) = { PR (PR k) with pc := hdl ((PR k).s 1) cause &&& ~~~1#64, md := 3, wt := false, s := prS (upd (upd (upd (upd (PR k).s 7 (PR k).pc) 8 cause) 9 tval) 0 (enS ((PR k).s 0) (PR k).md)), rv := false, ra := 0#64, rs := 0 } := rfl
 have hs : prS (upd (upd (upd (upd (PR k).s 7 (PR k).pc) 8 cause) 9 tval) 0 (enS ((PR k).s 0) (PR k).md)) = upd (upd (upd (upd (PR k).s 7 (PR k).pc) 8 cause) 9 tval) 0 (enS ((PR k).s 0) (PR k).md) := by
  have h0 := uC k.s
  funext j
  match j with
  | 0 => exact VW (KC k) _
  | 1 => exact congrFun h0 1
  | 2 => exact congrFun h0 2
  | 3 => exact congrFun h0 3
  | 4 => exact congrFun h0 4
  | 5 => exact congrFun h0 5
  | 6 => rfl
  | 7 => exact gD k.pc (~~~1#64)
  | j + 8 => rfl
 rw [e, fR, IG, hs]
 rfl
theorem RT_pr (k : Cp) : PR (RTc k) = RTc k := by
 unfold RTc
 split
 ·have e : PR { PR k with pc := (PR k).s 7, md := mpB ((PR k).s 0), s := upd (PR k).s 0 (rtS ((PR k).s 0)), rv := false, ra := 0#64, rs := 0 } = { PR (PR k) with pc := (PR k).s 7 &&& ~~~1#64, md := if mpB ((PR k).s 0) = 3 then 3 else 0, s := prS (upd (PR k).s 0 (rtS ((PR k).s 0))), rv := false, ra := 0#64, rs := 0 } := rfl
  have hs : prS (upd (PR k).s 0 (rtS ((PR k).s 0))) = upd (PR k).s 0 (rtS ((PR k).s 0)) := by
   have h0 := uC k.s
   funext j
   match j with
   | 0 => exact ZG (KC k)
   | 1 => exact congrFun h0 1
   | 2 => exact congrFun h0 2
   | 3 => exact congrFun h0 3
   | 4 => exact congrFun h0 4
   | 5 => exact congrFun h0 5
   | 6 => rfl
   | 7 => exact congrFun h0 7
   | j + 8 => rfl
  have hp : (PR k).s 7 &&& ~~~1#64 = (PR k).s 7 := gD (k.s 7) (~~~1#64)
  have hm : (if mpB ((PR k).s 0) = 3 then (3 : Int) else 0) = mpB ((PR k).s 0) := by
   rcases JC ((PR k).s 0) with h | h <;> rw [h] <;> rfl
  rw [e, fR, hs, hp, hm]
 ·exact fR k
theorem WT_pr (k : Cp) : PR (WTc k) = WTc k := by
 unfold WTc
 split
 ·exact fR k
 ·have e : PR { PR k with wt := true } = { PR (PR k) with wt := true } := rfl
  rw [e, fR]
theorem UT (v : BitVec 64) (n : Nat) (hn : n < 64) : v &&& tp n = if v.getLsbD n then tp n else 0#64 := by
 apply BitVec.eq_of_getLsbD_eq
 intro i hi
 rw [BitVec.getLsbD_and, nS n i hn hi]
 by_cases h : i = n
 ·subst h
  cases hv : v.getLsbD i
  ·simp
  ·simp [nS i i hi hi]
 ·cases hv : v.getLsbD n
  ·simp [h]
  ·simp [h, nS n i hn hi]
theorem tp_pos (n : Nat) (hn : n < 64) : n64 (tp n) ≠ 0 := by
 intro h
 have h0 := fE h
 have h1 := nS n n hn hn
 rw [h0] at h1
 simp at h1
theorem xJ (v : BitVec 64) (n : Nat) (hn : n < 64) : (n64 (v &&& tp n) != 0) = v.getLsbD n := by
 rw [UT v n hn]
 cases v.getLsbD n
 ·rfl
 ·rw [if_pos rfl]; simpa using tp_pos n hn
theorem TQ : ∀ i, i < 64 → (6144#64).getLsbD i = (decide (i = 11) || decide (i = 12)) := by decide
theorem wB_0 (v : BitVec 64) : v &&& ~~~6144#64 ||| 0#64 <<< 11 &&& 6144#64 = wB v 0 := by
 rw [show (0#64 <<< 11 &&& 6144#64 : BitVec 64) = 0#64 by decide]
 apply BitVec.eq_of_getLsbD_eq
 intro i hi
 rw [nT v 0 i hi, BitVec.getLsbD_or, BitVec.getLsbD_and, BitVec.getLsbD_not, TQ i hi]
 by_cases h1 : i = 11
 ·simp [h1]
 ·by_cases h2 : i = 12
  ·simp [h2]
  ·simp [h1, h2, hi]
theorem wB_3 (v : BitVec 64) : v &&& ~~~6144#64 ||| 3#64 <<< 11 &&& 6144#64 = wB v 3 := by
 rw [show (3#64 <<< 11 &&& 6144#64 : BitVec 64) = 6144#64 by decide]
 apply BitVec.eq_of_getLsbD_eq
 intro i hi
 rw [nT v 3 i hi, BitVec.getLsbD_or, BitVec.getLsbD_and, BitVec.getLsbD_not, TQ i hi]
 by_cases h1 : i = 11
 ·simp [h1]
 ·by_cases h2 : i = 12
  ·simp [h2]
  ·simp [h1, h2, hi]
theorem TE (v : BitVec 64) (h : v.getLsbD 11 = v.getLsbD 12) : n64 (bfB v) = mpB v := by
 have h0 : (v >>> 11 &&& 3#64).getLsbD 0 = v.getLsbD 11 := by rw [BitVec.getLsbD_and, BitVec.getLsbD_ushiftRight]; simp
 have h1 : (v >>> 11 &&& 3#64).getLsbD 1 = v.getLsbD 12 := by
  rw [BitVec.getLsbD_and, BitVec.getLsbD_ushiftRight, show (3#64).getLsbD 1 = true by decide, Bool.and_true]
 unfold mpB bfB
 rw [← h0, ← h1] at h
 rw [← h0]
 rcases WI (oR (v >>> 11)) with e | e | e | e
 ·rw [e]; decide
 ·rw [e] at h; exact absurd h (by decide)
 ·rw [e] at h; exact absurd h (by decide)
 ·rw [e]; decide
theorem QM (k : Cp) : ((PR k).s 0).getLsbD 11 = ((PR k).s 0).getLsbD 12 := JD _ (by rw [← KC]; exact BI _)
theorem rtS_0 (v : BitVec 64) (h : mpB v = 0) : wB (sB (sB (sB v 17 false) 3 (v.getLsbD 7)) 7 true) 0 = rtS v := by
 apply BitVec.eq_of_getLsbD_eq
 intro i hi
 rw [pD v i hi, nT _ _ i hi, gJ _ 7 i (by decide) hi, gJ _ 3 i (by decide) hi, gJ _ 17 i (by decide) hi]
 by_cases h17 : i = 17
 ·subst h17; simp [h]
 ·simp [h17]
theorem rtS_3 (v : BitVec 64) (h : mpB v = 3) : wB (sB (sB v 3 (v.getLsbD 7)) 7 true) 0 = rtS v := by
 unfold rtS
 rw [if_neg (by rw [h]; decide)]
theorem MN (v : BitVec 64) (n : Nat) (on : Bool) (w : World) : Calls prog 208 #[.int .u64 (n64 v), .int .u64 (n64 (tp n)), .bool on] w fun e w' => e = .returned (.int .u64 (n64 (sB v n on))) ∧ w' = w := by
 have b0 := hU v (tp n)
 have b1 := eR v (tp n)
 unfold sB
 cases on with
 | true =>
  rw [if_pos rfl]
  generalize n64 (v ||| tp n) = z at b0 ⊢
  generalize n64 (tp n) = y at *
  generalize n64 v = x at *
  clear b1
  go_enter func208, ntmps208
  go_wp2
  go_ret
  exact ⟨by rfl, rfl⟩
 | false =>
  rw [if_neg (by decide)]
  generalize n64 (v &&& ~~~tp n) = z at b1 ⊢
  generalize n64 (tp n) = y at *
  generalize n64 v = x at *
  clear b0
  go_enter func208, ntmps208
  go_wp2
  go_ret
  exact ⟨by rfl, rfl⟩
theorem sY (v : BitVec 64) (on : Bool) (w : World) : Calls prog 168 #[.int .u64 (n64 v), .bool on] w fun e w' => e = .returned (.int .u64 (n64 (sB v 3 on))) ∧ w' = w := by
 have H : Hid (∀ W, Calls prog 208 #[.int .u64 (n64 v), .int .u64 8, .bool on] W fun e w' => e = .returned (.int .u64 (n64 (sB v 3 on))) ∧ w' = W) := fun W => MN v 3 on W
 generalize n64 (sB v 3 on) = z at H ⊢
 go_enter func168, ntmps168
 go_wp2_with (go_at_call 208; refine (H.out _).mono ?_; rintro e wb ⟨rfl, hwb⟩; have hwb2 := hwb.symm; subst hwb2)
 go_ret
 exact ⟨by rfl, rfl⟩
theorem rF (v : BitVec 64) (on : Bool) (w : World) : Calls prog 169 #[.int .u64 (n64 v), .bool on] w fun e w' => e = .returned (.int .u64 (n64 (sB v 7 on))) ∧ w' = w := by
 have H : Hid (∀ W, Calls prog 208 #[.int .u64 (n64 v), .int .u64 128, .bool on] W fun e w' => e = .returned (.int .u64 (n64 (sB v 7 on))) ∧ w' = W) := fun W => MN v 7 on W
 generalize n64 (sB v 7 on) = z at H ⊢
 go_enter func169, ntmps169
 go_wp2_with (go_at_call 208; refine (H.out _).mono ?_; rintro e wb ⟨rfl, hwb⟩; have hwb2 := hwb.symm; subst hwb2)
 go_ret
 exact ⟨by rfl, rfl⟩
theorem BS (v : BitVec 64) (m : Int) (hm : m = 0 ∨ m = 3) (w : World) : Calls prog 149 #[.int .u64 (n64 v), .int .i64 m] w fun e w' => e = .returned (.int .u64 (n64 (wB v m))) ∧ w' = w := by
 rcases hm with rfl | rfl
 ·have h := kL v 0#64 (by decide) w
  rw [wB_0] at h; exact h
 ·have h := kL v 3#64 (by decide) w
  rw [wB_3] at h; exact h
theorem yM (v : BitVec 64) (h : v.getLsbD 11 = v.getLsbD 12) (w : World) : Calls prog 134 #[.int .u64 (n64 v)] w fun e w' => e = .returned (.int .u64 (n64 (rtS v))) ∧ w' = w := by
 have HB : Hid (∀ W, Calls prog 56 #[.int .u64 (n64 v)] W fun e w' => e = .returned (.int .i64 (mpB v)) ∧ w' = W) := fun W => by have q := kT v W; rw [TE v h] at q; exact q
 rcases JC v with h0 | h0
 ·rw [← rtS_0 v h0]
  rw [h0] at HB
  have e7 : (sB v 17 false).getLsbD 7 = v.getLsbD 7 := by rw [gJ v 17 7 (by decide) (by decide)]; simp
  rw [← e7]
  have a0 : bits .andNot .u64 (n64 v) 131072 = n64 (sB v 17 false) := eR v 131072#64
  clear h h0 e7
  generalize sB v 17 false = u at a0 ⊢
  have b0 : bits .and .u64 (n64 u) 128 = n64 (u &&& 128#64) := cQ u 128#64
  have b1 : (n64 (u &&& 128#64) != 0) = u.getLsbD 7 := xJ u 7 (by decide)
  have H1 : Hid (∀ W, Calls prog 168 #[.int .u64 (n64 u), .bool (u.getLsbD 7)] W fun e w' => e = .returned (.int .u64 (n64 (sB u 3 (u.getLsbD 7)))) ∧ w' = W) := sY u _
  have H2 : Hid (∀ W, Calls prog 169 #[.int .u64 (n64 (sB u 3 (u.getLsbD 7))), .bool true] W fun e w' => e = .returned (.int .u64 (n64 (sB (sB u 3 (u.getLsbD 7)) 7 true))) ∧ w' = W) := rF _ _
  have H3 : Hid (∀ W, Calls prog 149 #[.int .u64 (n64 (sB (sB u 3 (u.getLsbD 7)) 7 true)), .int .i64 0] W fun e w' => e = .returned (.int .u64 (n64 (wB (sB (sB u 3 (u.getLsbD 7)) 7 true) 0))) ∧ w' = W) := BS _ 0 (Or.inl rfl)
  generalize n64 (wB (sB (sB u 3 (u.getLsbD 7)) 7 true) 0) = y3 at H3 ⊢
  generalize n64 (sB (sB u 3 (u.getLsbD 7)) 7 true) = y2 at H2 H3
  generalize n64 (sB u 3 (u.getLsbD 7)) = y1 at H1 H2
  generalize u.getLsbD 7 = b at H1 b1
  generalize n64 (u &&& 128#64) = y0 at b0 b1
  generalize n64 u = xu at *
  generalize n64 v = x at *
  go_enter func134, ntmps134
  go_wp2_with (first | (go_at_call 56; refine (HB.out _).mono ?_; rintro e wb ⟨rfl, hwb⟩; have hwb2 := hwb.symm; subst hwb2) | (go_at_call 168; refine (H1.out _).mono ?_; rintro e wb ⟨rfl, hwb⟩; have hwb2 := hwb.symm; subst hwb2) | (go_at_call 169; refine (H2.out _).mono ?_; rintro e wb ⟨rfl, hwb⟩; have hwb2 := hwb.symm; subst hwb2) | (go_at_call 149; refine (H3.out _).mono ?_; rintro e wb ⟨rfl, hwb⟩; have hwb2 := hwb.symm; subst hwb2))
  go_ret
  exact ⟨by rfl, rfl⟩
 ·rw [← rtS_3 v h0]
  rw [h0] at HB
  clear h h0
  have b0 : bits .and .u64 (n64 v) 128 = n64 (v &&& 128#64) := cQ v 128#64
  have b1 : (n64 (v &&& 128#64) != 0) = v.getLsbD 7 := xJ v 7 (by decide)
  have H1 : Hid (∀ W, Calls prog 168 #[.int .u64 (n64 v), .bool (v.getLsbD 7)] W fun e w' => e = .returned (.int .u64 (n64 (sB v 3 (v.getLsbD 7)))) ∧ w' = W) := sY v _
  have H2 : Hid (∀ W, Calls prog 169 #[.int .u64 (n64 (sB v 3 (v.getLsbD 7))), .bool true] W fun e w' => e = .returned (.int .u64 (n64 (sB (sB v 3 (v.getLsbD 7)) 7 true))) ∧ w' = W) := rF _ _
  have H3 : Hid (∀ W, Calls prog 149 #[.int .u64 (n64 (sB (sB v 3 (v.getLsbD 7)) 7 true)), .int .i64 0] W fun e w' => e = .returned (.int .u64 (n64 (wB (sB (sB v 3 (v.getLsbD 7)) 7 true) 0))) ∧ w' = W) := BS _ 0 (Or.inl rfl)
  generalize n64 (wB (sB (sB v 3 (v.getLsbD 7)) 7 true) 0) = y3 at H3 ⊢
  generalize n64 (sB (sB v 3 (v.getLsbD 7)) 7 true) = y2 at H2 H3
  generalize n64 (sB v 3 (v.getLsbD 7)) = y1 at H1 H2
  generalize v.getLsbD 7 = b at H1 b1
  generalize n64 (v &&& 128#64) = y0 at b0 b1
  generalize n64 v = xu at *
  go_enter func134, ntmps134
  go_wp2_with (first | (go_at_call 56; refine (HB.out _).mono ?_; rintro e wb ⟨rfl, hwb⟩; have hwb2 := hwb.symm; subst hwb2) | (go_at_call 168; refine (H1.out _).mono ?_; rintro e wb ⟨rfl, hwb⟩; have hwb2 := hwb.symm; subst hwb2) | (go_at_call 169; refine (H2.out _).mono ?_; rintro e wb ⟨rfl, hwb⟩; have hwb2 := hwb.symm; subst hwb2) | (go_at_call 149; refine (H3.out _).mono ?_; rintro e wb ⟨rfl, hwb⟩; have hwb2 := hwb.symm; subst hwb2))
  go_ret
  exact ⟨by rfl, rfl⟩
theorem TX {K k : Cp} (h : K = PR k) : (K.s 0).getLsbD 11 = (K.s 0).getLsbD 12 := by rw [h]; exact QM k
theorem ET : TWt := fun k w => by
 have hz := cC
 obtain ⟨W0, hW0, r0, r1, b0, s0⟩ := cN w (cpc k) (cpc cz) 31 31
 have HS := hid s0
 clear s0
 have HP : Hid (∀ W, Calls prog 10 #[.agg (cpc k)] W fun e w' => e = .returned (.agg (cpc (PR k))) ∧ Below W.heap.size W w') := fun W => jF k W
 have HM := zL k
 obtain ⟨K, hK⟩ : ∃ K, K = PR k := ⟨_, rfl⟩
 rw [← hK] at HP HM
 have HK := hid hK
 clear hK
 go_enter func100, ntmps100
 go_upto_region 1 with fail
 clear hz hW0
 go_upto_region 2 with (first | (refine wpList_load_row (by rfl) _ _ (by rfl) _ (by rfl) 31 _ (0, 0) _ r0.out underlying31 (by rfl) (aB _) ?_) | (go_at_call 10; refine (HP.out _).mono ?_; rintro e w1 ⟨rfl, hb1⟩; have HB1 := hid hb1; clear hb1) | (refine aA (by rfl) _ _ _ (by rfl) (by rfl) _ _ _ (by rfl) (by rfl) (r0.out.later HB1.out (by rw [HS.out]; omega)) (aB _) (by rw [aE, aE]) (aO _) ?_))
 refine gE (motive := fun W => Code.wp _ _ _ _ W) (a := w) (B := w.heap.size) (n := w1.heap.size) (show Row _ w.heap.size (cpc K) 31 from ZqW _ _ _ _ _ _ (r0.out.later HB1.out (by rw [HS.out]; omega))) (sW (r1.out.later HB1.out (by rw [HS.out]; omega)) (by omega) _) (aW (b0.out.trans (HB1.out.mono b0.out.size)) (ZqE _) _) (by simp) ?_
 clear r0 r1 b0 HS HB1 HP
 intro W2 q0 q1 c0 t0
 have R0 : Hid (Row W2 w.heap.size (cpc K) 31) := q0
 have R1 : Hid (Row W2 (w.heap.size + 1) (cpc cz) 31) := q1
 have BB : Hid (Below w.heap.size w W2) := c0
 have Km := q0.cls.md
 have K0 := q0.cls.s0
 have f0 := q0.froz
 clear q0 q1 c0 t0
 have b0 : bits .and .u64 (n64 (K.s 0)) 2097152 = n64 (K.s 0 &&& 2097152#64) := cQ _ 2097152#64
 have b1 : (n64 (K.s 0 &&& 2097152#64) != 0) = (K.s 0).getLsbD 21 := xJ (K.s 0) 21 (by decide)
 obtain ⟨b, hb⟩ : ∃ b, b = (K.s 0).getLsbD 21 := ⟨_, rfl⟩
 rw [← hb] at b1
 have Eb := hid hb
 clear hb
 generalize n64 (K.s 0 &&& 2097152#64) = y0 at b0 b1
 by_cases h0 : K.md = 0 ∧ b = true
 ·obtain ⟨h1, h2⟩ := h0
  have hst : stp (PR k) = true := by unfold stp; rw [← HK.out, ← Eb.out, h1, h2]; rfl
  have HA : Hid (WTc k = K) := by unfold Hid WTc; rw [if_pos hst, HK.out]
  have HW : Hid (WTk k = false) := by unfold Hid WTk; rw [hst]; rfl
  subst h2
  rw [h1] at Km
  clear h1 HM hst Eb HK
  go_upto_region 3 with fail
  go_wp2_with (first | (refine wpList_load_row (by rfl) _ _ (by rfl) _ (by rfl) 31 _ (0, 0) _ R0.out underlying31 (by rfl) (aB _) ?_) | (refine aA (by rfl) _ _ _ (by rfl) (by rfl) _ _ _ (by rfl) (by rfl) R1.out (aB _) (by rw [aE, aE]) (aO _) ?_))
  refine ZqH (cE results100 _ _ (w.heap.size + 1) 31 _ (0, 0) _ _ (by rfl) (by rfl) (ZqW _ _ _ _ _ _ R1.out) underlying31 (by rfl) (aB _)) rfl ?_
  exact ⟨by rw [HA.out, HW.out]; rfl, aW BB.out (by omega) _⟩
 ·have hst : stp (PR k) = false := by
   unfold stp
   rw [← HK.out, ← Eb.out]
   cases b with
   | false => simp
   | true => simp only [and_true] at h0; simp [h0]
  have HA : Hid (WTc k = { K with wt := true }) := by unfold Hid WTc; rw [if_neg (by rw [hst]; decide), HK.out]
  have HW : Hid (WTk k = true) := by unfold Hid WTk; rw [hst]; rfl
  have Q := R0.out.put (i := 34) (.bool true)
  rw [GG] at Q
  have RQ : Hid (Row (W2.setCell ⟨w.heap.size, 34, none⟩ (.bool true)) w.heap.size (cpc { K with wt := true }) 31) := Q
  have Kw := R0.out.cls.wt
  clear Q hst Eb HK
  rcases HM with h1 | h1
  ·have hb0 : b = false := by
    cases b with
    | false => rfl
    | true => exact absurd ⟨h1, rfl⟩ h0
   subst hb0
   rw [h1] at Km
   clear h1 h0
   go_upto_region 5 with fail
   refine gE (motive := fun W => Code.wp _ _ _ _ W) (a := w) (B := w.heap.size) RQ.out (Row.other R1.out (by omega) _) (aM BB.out (ZqE _) _) rfl ?_
   clear R0 R1 BB RQ Km K0 f0 Kw
   intro W3 q0 q1 c0 t0
   have R0 : Hid (Row W3 w.heap.size (cpc { K with wt := true }) 31) := q0
   have R1 : Hid (Row W3 (w.heap.size + 1) (cpc cz) 31) := q1
   have BB : Hid (Below w.heap.size w W3) := c0
   clear q0 q1 c0 t0
   go_wp2_with (first | (refine wpList_load_row (by rfl) _ _ (by rfl) _ (by rfl) 31 _ (0, 0) _ R0.out underlying31 (by rfl) (aB _) ?_) | (refine aA (by rfl) _ _ _ (by rfl) (by rfl) _ _ _ (by rfl) (by rfl) R1.out (aB _) (by rw [aE, aE]) (aO _) ?_))
   refine ZqH (cE results100 _ _ (w.heap.size + 1) 31 _ (0, 0) _ _ (by rfl) (by rfl) (ZqW _ _ _ _ _ _ R1.out) underlying31 (by rfl) (aB _)) rfl ?_
   exact ⟨by rw [HA.out, HW.out]; rfl, aW BB.out (by omega) _⟩
  ·rw [h1] at Km
   clear h1 h0
   go_upto_region 5 with fail
   refine gE (motive := fun W => Code.wp _ _ _ _ W) (a := w) (B := w.heap.size) RQ.out (Row.other R1.out (by omega) _) (aM BB.out (ZqE _) _) rfl ?_
   clear R0 R1 BB RQ Km K0 f0 Kw
   intro W3 q0 q1 c0 t0
   have R0 : Hid (Row W3 w.heap.size (cpc { K with wt := true }) 31) := q0
   have R1 : Hid (Row W3 (w.heap.size + 1) (cpc cz) 31) := q1
   have BB : Hid (Below w.heap.size w W3) := c0
   clear q0 q1 c0 t0
   go_wp2_with (first | (refine wpList_load_row (by rfl) _ _ (by rfl) _ (by rfl) 31 _ (0, 0) _ R0.out underlying31 (by rfl) (aB _) ?_) | (refine aA (by rfl) _ _ _ (by rfl) (by rfl) _ _ _ (by rfl) (by rfl) R1.out (aB _) (by rw [aE, aE]) (aO _) ?_))
   refine ZqH (cE results100 _ _ (w.heap.size + 1) 31 _ (0, 0) _ _ (by rfl) (by rfl) (ZqW _ _ _ _ _ _ R1.out) underlying31 (by rfl) (aB _)) rfl ?_
   exact ⟨by rw [HA.out, HW.out]; rfl, aW BB.out (by omega) _⟩
theorem uS : TRt := fun k w => by
 have hz := cC
 obtain ⟨W0, hW0, r0, r1, b0, s0⟩ := cN w (cpc k) (cpc cz) 31 31
 have HS := hid s0
 clear s0
 have HP : Hid (∀ W, Calls prog 10 #[.agg (cpc k)] W fun e w' => e = .returned (.agg (cpc (PR k))) ∧ Below W.heap.size W w') := fun W => jF k W
 have HM := zL k
 obtain ⟨K, hK⟩ : ∃ K, K = PR k := ⟨_, rfl⟩
 rw [← hK] at HP HM
 have HK := hid hK
 clear hK
 go_enter func99, ntmps99
 go_upto_region 1 with fail
 clear hz hW0
 go_upto_region 2 with (first | (refine wpList_load_row (by rfl) _ _ (by rfl) _ (by rfl) 31 _ (0, 0) _ r0.out underlying31 (by rfl) (aB _) ?_) | (go_at_call 10; refine (HP.out _).mono ?_; rintro e w1 ⟨rfl, hb1⟩; have HB1 := hid hb1; clear hb1) | (refine aA (by rfl) _ _ _ (by rfl) (by rfl) _ _ _ (by rfl) (by rfl) (r0.out.later HB1.out (by rw [HS.out]; omega)) (aB _) (by rw [aE, aE]) (aO _) ?_))
 refine gE (motive := fun W => Code.wp _ _ _ _ W) (a := w) (B := w.heap.size) (n := w1.heap.size) (show Row _ w.heap.size (cpc K) 31 from ZqW _ _ _ _ _ _ (r0.out.later HB1.out (by rw [HS.out]; omega))) (sW (r1.out.later HB1.out (by rw [HS.out]; omega)) (by omega) _) (aW (b0.out.trans (HB1.out.mono b0.out.size)) (ZqE _) _) (by simp) ?_
 clear r0 r1 b0 HS HB1 HP
 intro W2 q0 q1 c0 t0
 have R0 : Hid (Row W2 w.heap.size (cpc K) 31) := q0
 have R1 : Hid (Row W2 (w.heap.size + 1) (cpc cz) 31) := q1
 have BB : Hid (Below w.heap.size w W2) := c0
 have Km := q0.cls.md
 have K0 := q0.cls.s0
 have f0 := q0.froz
 clear q0 q1 c0 t0
 rcases HM with h1 | h1
 ·have HA : Hid (RTc k = K) := by unfold Hid RTc; rw [← HK.out, if_neg (by rw [h1]; decide)]
  have HW : Hid (RTk k = false) := by unfold Hid RTk; rw [← HK.out, h1]; rfl
  rw [h1] at Km
  clear h1 HK
  go_upto_region 3 with fail
  go_wp2_with (first | (refine wpList_load_row (by rfl) _ _ (by rfl) _ (by rfl) 31 _ (0, 0) _ R0.out underlying31 (by rfl) (aB _) ?_) | (refine aA (by rfl) _ _ _ (by rfl) (by rfl) _ _ _ (by rfl) (by rfl) R1.out (aB _) (by rw [aE, aE]) (aO _) ?_))
  refine ZqH (cE results99 _ _ (w.heap.size + 1) 31 _ (0, 0) _ _ (by rfl) (by rfl) (ZqW _ _ _ _ _ _ R1.out) underlying31 (by rfl) (aB _)) rfl ?_
  exact ⟨by rw [HA.out, HW.out]; rfl, aW BB.out (by omega) _⟩
 ·rw [h1] at Km
  have HW : Hid (RTk k = true) := by unfold Hid RTk; rw [← HK.out, h1]; rfl
  have HA : Hid (RTc k = { K with pc := K.s 7, md := mpB (K.s 0), s := upd K.s 0 (rtS (K.s 0)), rv := false, ra := 0#64, rs := 0 }) := by unfold Hid RTc; rw [← HK.out, if_pos h1]
  have HF : Hid (∀ W, Calls prog 56 #[.int .u64 (n64 (K.s 0))] W fun e w' => e = .returned (.int .i64 (mpB (K.s 0))) ∧ w' = W) := fun W => by have q := kT (K.s 0) W; rw [TE _ (TX HK.out)] at q; exact q
  have HR : Hid (∀ W, Calls prog 134 #[.int .u64 (n64 (K.s 0))] W fun e w' => e = .returned (.int .u64 (n64 (rtS (K.s 0)))) ∧ w' = W) := yM _ (TX HK.out)
  generalize mpB (K.s 0) = z at HF HA
  generalize rtS (K.s 0) = vr at HR HA
  have K7 := R0.out.cls.s7
  have Kp := R0.out.cls.pc
  have Kv := R0.out.cls.rv
  have Ka := R0.out.cls.ra
  have Ks := R0.out.cls.rs
  have hzr : ∀ W, (zeroValue 29).run prog W = .ok (.agg #[.bool false, .int .u64 0, .int .i64 0]) W := fun W => by kernel_rfl
  clear h1 HK
  go_upto_region 8 with (first | (go_at_call 56; refine (HF.out _).mono ?_; rintro e wb ⟨rfl, hwb⟩; have hwb2 := hwb.symm; subst hwb2) | (go_at_call 134; refine (HR.out _).mono ?_; rintro e wb ⟨rfl, hwb⟩; have hwb2 := hwb.symm; subst hwb2))
  have Q := ((R0.out.put (i := 33) (.int .i64 z)).put (i := 35) (.int .u64 (n64 vr))).put (i := 0) (.int .u64 (n64 (K.s 7)))
  rw [xK, xL, kV] at Q
  have Q2 := Q.nores
  refine gE (motive := fun W => Code.wp _ _ _ _ W) (a := w) (B := w.heap.size) (cs := cpc { K with pc := K.s 7, md := z, s := upd K.s 0 vr, rv := false, ra := 0#64, rs := 0 }) Q2 (Row.other (Row.other (Row.other (Row.other (Row.other (Row.other R1.out (by omega) _) (by omega) _) (by omega) _) (by omega) _) (by omega) _) (by omega) _) (aM (aM (aM (aM (aM (aM BB.out (ZqE _) _) (ZqE _) _) (ZqE _) _) (ZqE _) _) (ZqE _) _) (ZqE _) _) rfl ?_
  clear Q Q2 R0 R1 BB f0 Kp Km K0 K7 Kv Ka Ks hzr HF HR
  intro W5 q0 q1 c0 t0
  have R0 : Hid (Row W5 w.heap.size (cpc { K with pc := K.s 7, md := z, s := upd K.s 0 vr, rv := false, ra := 0#64, rs := 0 }) 31) := q0
  have R1 : Hid (Row W5 (w.heap.size + 1) (cpc cz) 31) := q1
  have BB : Hid (Below w.heap.size w W5) := c0
  clear q0 q1 c0 t0
  go_wp2_with (first | (refine wpList_load_row (by rfl) _ _ (by rfl) _ (by rfl) 31 _ (0, 0) _ R0.out underlying31 (by rfl) (aB _) ?_) | (refine aA (by rfl) _ _ _ (by rfl) (by rfl) _ _ _ (by rfl) (by rfl) R1.out (aB _) (by rw [aE, aE]) (aO _) ?_))
  refine ZqH (cE results99 _ _ (w.heap.size + 1) 31 _ (0, 0) _ _ (by rfl) (by rfl) (ZqW _ _ _ _ _ _ R1.out) underlying31 (by rfl) (aB _)) rfl ?_
  exact ⟨by rw [HA.out, HW.out]; rfl, aW BB.out (by omega) _⟩
theorem Ret.yes {B g : Nat} {L : Lay} {S' : St} {w w' : World} {t : Tp} {k' : Wk} {v : Value} {e : Ending} (ht : t.is = false) (h : Ret B L w g t S' k' v e w') : e = .returned v ∧ ∃ L', Bst B L w g L' S' w' ∧ ¬ L'.own g ∧ Row w' g (wkc k') 74 := by
 obtain ⟨L', h1, h2, h3 | h3⟩ := h
 ·rw [ht] at h3; cases h3.1
 ·exact ⟨h3.2.1, L', h1, h2, h3.2.2⟩
theorem Ret.no {B g : Nat} {L : Lay} {S' : St} {w w' : World} {t : Tp} {k' : Wk} {v : Value} {e : Ending} (ht : t.is = true) (h : Ret B L w g t S' k' v e w') : e = .panicked [{ v := exv t.ca t.tv, recovered := false }] ∧ ∃ L', Bst B L w g L' S' w' ∧ ¬ L'.own g := by
 obtain ⟨L', h1, h2, h3 | h3⟩ := h
 ·exact ⟨h3.2, L', h1, h2⟩
 ·rw [ht] at h3; cases h3.1
theorem MI {B g n s : Nat} {L : Lay} {S : St} {w : World} {k : Wk} (h : Pre B L S w g k) (h1 : k.i.r1 = (n : Int)) (hn : n < 32) (hrd : 0 ≤ k.i.rd ∧ k.i.rd < 32) (hsz : k.sz = (s : Int)) (hs1 : 0 < s) (hs8 : s ≤ 8) :
  Calls prog 64 #[.pointer (some ⟨g, 0, none⟩)] w fun e w' => Ret B L w g (PL S (wL L.b (PR k.k) (k.p.x n + iB k.i.im)) s none).t (PL S (wL L.b (PR k.k) (k.p.x n + iB k.i.im)) s none).S (ptK { k with d := { k.d with me := 1, ad := k.p.x n + iB k.i.im, sz := (s : Int), da := loV 0#64 s } } (PL S (wL L.b (PR k.k) (k.p.x n + iB k.i.im)) s none).old) (.tuple #[]) e w' := by
 have HL := Hid.mk' (BR h h1 hn hsz hs1 hs8)
 have hlt := h.r.lt
 obtain ⟨K1, hK1⟩ : ∃ K1 : Wk, K1 = { k with d := { k.d with me := 1, ad := k.p.x n + iB k.i.im, sz := (s : Int), da := loV 0#64 s } } := ⟨_, rfl⟩
 rw [← hK1] at HL ⊢
 replace hsz : K1.sz = (s : Int) := by rw [hK1]; exact hsz
 replace hrd : 0 ≤ K1.i.rd ∧ K1.i.rd < 32 := by rw [hK1]; exact hrd
 have HSZ := Hid.mk' hsz
 clear hK1 hsz
 generalize PL S (wL L.b (PR k.k) (k.p.x n + iB k.i.im)) s none = m at HL ⊢
 cases ht : m.t.is with
 | true =>
  go_enter func64, ntmps64
  go_wp2_with (go_at_call 94; refine HL.out.mono ?_)
  rintro e w' hp
  obtain ⟨rfl, L', hb, hn'⟩ := hp.no ht
  exact ⟨rfl, L', hb, hn', .inl ⟨ht, rfl⟩⟩
 | false =>
  go_enter func64, ntmps64
  go_wp2_with (first | (go_at_call 94; refine HL.out.mono ?_; intro e w1 hp; obtain ⟨rfl, L1, hb1, hn1, hr1⟩ := hp.yes ht; have HB1 := Hid.mk' hb1; have HR1 := Hid.mk' hr1; have HN1 := Hid.mk' hn1; clear hp hb1 hr1 hn1) | (go_at_call 87; refine (fJ HR1.out (m.old) hrd).mono ?_; rintro e w10 ⟨rfl, hm10⟩; have HM := Hid.mk' hm10; clear hm10))
  first | go_end0 | refine ZqH (results_none rfl _ _ _) rfl ?_
  exact ⟨L1, HB1.out.trans hlt (Bst.of_mk HB1.out.p HN1.out HM.out.x), HN1.out, .inr ⟨ht, rfl, HM.out.r⟩⟩
theorem MJ {B g n s : Nat} {L : Lay} {S : St} {w : World} {k : Wk} (h : Pre B L S w g k) (h1 : k.i.r1 = (n : Int)) (hn : n < 32) (hrd : 0 ≤ k.i.rd ∧ k.i.rd < 32) (hsz : k.sz = (s : Int)) (hs1 : 0 < s) (hs8 : s ≤ 8) :
  Calls prog 63 #[.pointer (some ⟨g, 0, none⟩)] w fun e w' => Ret B L w g (PL S (wL L.b (PR k.k) (k.p.x n + iB k.i.im)) s none).t (PL S (wL L.b (PR k.k) (k.p.x n + iB k.i.im)) s none).S (ptK { k with d := { k.d with me := 1, ad := k.p.x n + iB k.i.im, sz := (s : Int), da := loV 0#64 s } } (exV (PL S (wL L.b (PR k.k) (k.p.x n + iB k.i.im)) s none).old s)) (.tuple #[]) e w' := by
 have HL := Hid.mk' (BR h h1 hn hsz hs1 hs8)
 have hlt := h.r.lt
 obtain ⟨K1, hK1⟩ : ∃ K1 : Wk, K1 = { k with d := { k.d with me := 1, ad := k.p.x n + iB k.i.im, sz := (s : Int), da := loV 0#64 s } } := ⟨_, rfl⟩
 rw [← hK1] at HL ⊢
 replace hsz : K1.sz = (s : Int) := by rw [hK1]; exact hsz
 replace hrd : 0 ≤ K1.i.rd ∧ K1.i.rd < 32 := by rw [hK1]; exact hrd
 have HSZ := Hid.mk' hsz
 clear hK1 hsz
 generalize PL S (wL L.b (PR k.k) (k.p.x n + iB k.i.im)) s none = m at HL ⊢
 cases ht : m.t.is with
 | true =>
  go_enter func63, ntmps63
  go_wp2_with (go_at_call 94; refine HL.out.mono ?_)
  rintro e w' hp
  obtain ⟨rfl, L', hb, hn'⟩ := hp.no ht
  exact ⟨rfl, L', hb, hn', .inl ⟨ht, rfl⟩⟩
 | false =>
  go_enter func63, ntmps63
  go_wp2_with (first | (go_at_call 94; refine HL.out.mono ?_; intro e w1 hp; obtain ⟨rfl, L1, hb1, hn1, hr1⟩ := hp.yes ht; have HB1 := Hid.mk' hb1; have HR1 := Hid.mk' hr1; have HN1 := Hid.mk' hn1; clear hp hb1 hr1 hn1) | (go_at_call 93; refine (lE (k := K1) HR1.out HSZ.out hs1 hs8 m.old).mono ?_; rintro e w8 ⟨rfl, hw8⟩; have hw82 := hw8.symm; subst hw82) | (go_at_call 87; refine (fJ HR1.out (exV m.old s) hrd).mono ?_; rintro e w10 ⟨rfl, hm10⟩; have HM := Hid.mk' hm10; clear hm10))
  first | go_end0 | refine ZqH (results_none rfl _ _ _) rfl ?_
  exact ⟨L1, HB1.out.trans hlt (Bst.of_mk HB1.out.p HN1.out HM.out.x), HN1.out, .inr ⟨ht, rfl, HM.out.r⟩⟩
def tkB (op : Int) (x y : BitVec 64) : Bool := if op = 5 then eqB x y else if op = 6 then !eqB x y else if op = 7 then sLt x y else if op = 8 then !sLt x y else if op = 9 then uLt x y else !uLt x y
theorem LO (op : Int) (h : 5 ≤ op ∧ op ≤ 10) (x y : BitVec 64) (w : World) : Calls prog 91 #[.int .i64 op, .int .u64 (n64 x), .int .u64 (n64 y)] w fun e w' => e = .returned (.tuple #[.bool (tkB op x y), .bool true]) ∧ Below w.heap.size w w' := by
 have : op = 5 ∨ op = 6 ∨ op = 7 ∨ op = 8 ∨ op = 9 ∨ op = 10 := by omega
 rcases this with rfl | rfl | rfl | rfl | rfl | rfl
 ·exact t_1 x y w
 ·exact t_2 x y w
 ·exact t_3 x y w
 ·exact t_4 x y w
 ·exact t_5 x y w
 ·exact t_6 x y w
def cOk (op : Int) : Prop := 22 ≤ op ∧ op ≤ 49 ∨ 62 ≤ op ∧ op ≤ 74
def CV (V : ZqZ) : Prop := ∀ op, cOk op → ∀ (x y : BitVec 64) (w : World), Calls prog 133 #[.int .i64 op, .int .u64 (n64 x), .int .u64 (n64 y)] w fun e w' => e = .returned (.tuple #[.int .u64 (n64 (V op x y)), .bool true]) ∧ Below w.heap.size w w'
theorem zY (op : Int) (h : cOk op) (x y : BitVec 64) : ∃ r : BitVec 64, ∀ w : World, Calls prog 133 #[.int .i64 op, .int .u64 (n64 x), .int .u64 (n64 y)] w fun e w' => e = .returned (.tuple #[.int .u64 (n64 r), .bool true]) ∧ Below w.heap.size w w' := by
 rcases h with h | h
 ·have : op = 22 ∨ op = 23 ∨ op = 24 ∨ op = 25 ∨ op = 26 ∨ op = 27 ∨ op = 28 ∨ op = 29 ∨ op = 30 ∨ op = 31 ∨ op = 32 ∨ op = 33 ∨ op = 34 ∨ op = 35 ∨ op = 36 ∨ op = 37 ∨ op = 38 ∨ op = 39 ∨ op = 40 ∨ op = 41 ∨ op = 42 ∨ op = 43 ∨ op = 44 ∨ op = 45 ∨ op = 46 ∨ op = 47 ∨ op = 48 ∨ op = 49 := by omega
  rcases this with rfl | rfl | rfl | rfl | rfl | rfl | rfl | rfl | rfl | rfl | rfl | rfl | rfl | rfl | rfl | rfl | rfl | rfl | rfl | rfl | rfl | rfl | rfl | rfl | rfl | rfl | rfl | rfl
  ·exact ⟨_, fun w => FI x y w⟩
  ·exact ⟨_, fun w => VK x y w⟩
  ·exact ⟨_, fun w => OC x y w⟩
  ·exact ⟨_, fun w => VR x y w⟩
  ·exact ⟨_, fun w => c_ori x y w⟩
  ·exact ⟨_, fun w => VA x y w⟩
  ·exact ⟨_, fun w => VI x y w⟩
  ·exact ⟨_, fun w => VO x y w⟩
  ·exact ⟨_, fun w => VM x y w⟩
  ·exact ⟨_, fun w => NX x y w⟩
  ·exact ⟨_, fun w => OB x y w⟩
  ·exact ⟨_, fun w => OE x y w⟩
  ·exact ⟨_, fun w => OD x y w⟩
  ·exact ⟨_, fun w => c_add x y w⟩
  ·exact ⟨_, fun w => c_sub x y w⟩
  ·exact ⟨_, fun w => c_sll x y w⟩
  ·exact ⟨_, fun w => c_slt x y w⟩
  ·exact ⟨_, fun w => VL x y w⟩
  ·exact ⟨_, fun w => c_xor x y w⟩
  ·exact ⟨_, fun w => c_srl x y w⟩
  ·exact ⟨_, fun w => c_sra x y w⟩
  ·exact ⟨_, fun w => c_or x y w⟩
  ·exact ⟨_, fun w => c_and x y w⟩
  ·exact ⟨_, fun w => UZ x y w⟩
  ·exact ⟨_, fun w => VQ x y w⟩
  ·exact ⟨_, fun w => VJ x y w⟩
  ·exact ⟨_, fun w => VP x y w⟩
  ·exact ⟨_, fun w => VN x y w⟩
 ·have : op = 62 ∨ op = 63 ∨ op = 64 ∨ op = 65 ∨ op = 66 ∨ op = 67 ∨ op = 68 ∨ op = 69 ∨ op = 70 ∨ op = 71 ∨ op = 72 ∨ op = 73 ∨ op = 74 := by omega
  rcases this with rfl | rfl | rfl | rfl | rfl | rfl | rfl | rfl | rfl | rfl | rfl | rfl | rfl
  ·exact ⟨_, fun w => c_mul x y w⟩
  ·exact ⟨_, fun w => VD x y w⟩
  ·exact ⟨_, fun w => FJ x y w⟩
  ·exact ⟨_, fun w => NZ x y w⟩
  ·exact ⟨_, fun w => c_div x y w⟩
  ·exact ⟨_, fun w => VB x y w⟩
  ·exact ⟨_, fun w => c_rem x y w⟩
  ·exact ⟨_, fun w => VG x y w⟩
  ·exact ⟨_, fun w => VE x y w⟩
  ·exact ⟨_, fun w => VC x y w⟩
  ·exact ⟨_, fun w => NY x y w⟩
  ·exact ⟨_, fun w => VH x y w⟩
  ·exact ⟨_, fun w => OA x y w⟩
theorem FV : ∃ V, CV V := by
 classical
 refine ⟨fun op x y => if h : cOk op then Classical.choose (zY op h x y) else 0#64, fun op h x y w => ?_⟩
 simp only [dif_pos h]
 exact Classical.choose_spec (zY op h x y) w
theorem rC {g n : Nat} {k : Wk} {w : World} {V : ZqZ} (hV : CV V) (hr : Row w g (wkc k) 74) (h1 : k.i.r1 = (n : Int)) (hn : n < 32) (hrd : 0 ≤ k.i.rd ∧ k.i.rd < 32) (hop : cOk k.i.op) (b : BitVec 64) :
  Calls prog 98 #[.pointer (some ⟨g, 0, none⟩), .int .u64 (n64 b)] w fun e w' => e = .returned (.tuple #[]) ∧ Mk g w w' (ptK k (V k.i.op (k.p.x n) b)) := by
 have HR := Hid.mk' hr
 have HF : Hid (∀ W, Row W g (wkc k) 74 → Calls prog 90 #[.pointer (some ⟨g, 0, none⟩)] W fun e w' => e = .returned (.int .u64 (n64 (k.p.x n))) ∧ Below W.heap.size W w') := fun W h => dX h h1 hn
 have HC := Hid.mk' (hV k.i.op hop (k.p.x n) b)
 have c1 := hr.kls.op
 have hlt := hr.lt
 have := aS w
 have L1 : ∀ x : bB w, x.1.cell? ⟨g, 165, none⟩ = some (.int .i64 k.i.op) := cG hlt c1
 generalize V k.i.op (k.p.x n) b = z at HC ⊢
 clear hr c1 hop
 go_enter func98, ntmps98
 go_upto_region 0 with fail
 refine bN (x0 := bB.start w) (by kernel_rfl) (by kernel_rfl) ?_
 repeat (go_big_quiet_step (first | (go_at_call 90; exact bJ (HF.out _ (HR.out.later (bB.below _) HR.out.lt))) | (go_at_call 133; exact bJ (HC.out _))))
 refine wpQuiet_nil ?_
 rintro w' ⟨x9, rfl⟩
 have H9 := Mk.later HR.out x9.below
 go_wp2_with (go_at_call 87; refine (fJ H9.r z hrd).mono ?_; rintro e w1 ⟨rfl, hm⟩)
 first | go_end0 | refine ZqH (results_none rfl _ _ _) rfl ?_
 exact ⟨rfl, Mk.pre x9.below hm⟩
theorem MA {g n : Nat} {k : Wk} {w : World} {V : ZqZ} (hV : CV V) (hr : Row w g (wkc k) 74) (h1 : k.i.r1 = (n : Int)) (hn : n < 32) (hrd : 0 ≤ k.i.rd ∧ k.i.rd < 32) (hop : cOk k.i.op) :
  Calls prog 66 #[.pointer (some ⟨g, 0, none⟩)] w fun e w' => e = .returned (.tuple #[]) ∧ Mk g w w' (ptK k (V k.i.op (k.p.x n) (iB k.i.im))) := by
 have HI := Hid.mk' (dO hr)
 have HC := Hid.mk' (rC hV hr h1 hn hrd hop (iB k.i.im))
 clear hr
 go_enter func66, ntmps66
 go_wp2_with (first | (go_at_call 88; refine HI.out.mono ?_; rintro e w1 ⟨rfl, hw⟩; have hw2 := hw.symm; subst hw2) | (go_at_call 98; refine HC.out.mono ?_; rintro e w1 ⟨rfl, hm⟩))
 first | go_end0 | refine ZqH (results_none rfl _ _ _) rfl ?_
 exact ⟨rfl, hm⟩
theorem MB {g n n2 : Nat} {k : Wk} {w : World} {V : ZqZ} (hV : CV V) (hr : Row w g (wkc k) 74) (h1 : k.i.r1 = (n : Int)) (hn : n < 32) (h2 : k.i.r2 = (n2 : Int)) (hn2 : n2 < 32) (hrd : 0 ≤ k.i.rd ∧ k.i.rd < 32) (hop : cOk k.i.op) :
  Calls prog 67 #[.pointer (some ⟨g, 0, none⟩)] w fun e w' => e = .returned (.tuple #[]) ∧ Mk g w w' (ptK k (V k.i.op (k.p.x n) (k.p.x n2))) := by
 have HI := Hid.mk' (fO hr h2 hn2)
 have HC : Hid (∀ W, Row W g (wkc k) 74 → Calls prog 98 #[.pointer (some ⟨g, 0, none⟩), .int .u64 (n64 (k.p.x n2))] W fun e w' => e = .returned (.tuple #[]) ∧ Mk g W w' (ptK k (V k.i.op (k.p.x n) (k.p.x n2)))) := fun W h => rC hV h h1 hn hrd hop (k.p.x n2)
 have HR := Hid.mk' hr
 clear hr
 go_enter func67, ntmps67
 go_wp2_with (first | (go_at_call 92; refine HI.out.mono ?_; rintro e w1 ⟨rfl, hb⟩; have HB := Hid.mk' hb; clear hb) | (go_at_call 98; refine (HC.out _ (HR.out.later HB.out HR.out.lt)).mono ?_; rintro e w2 ⟨rfl, hm⟩))
 first | go_end0 | refine ZqH (results_none rfl _ _ _) rfl ?_
 exact ⟨rfl, Mk.pre HB.out hm⟩
theorem ED {g n n2 : Nat} {k : Wk} {w : World} (hr : Row w g (wkc k) 74) (h1 : k.i.r1 = (n : Int)) (hn : n < 32) (h2 : k.i.r2 = (n2 : Int)) (hn2 : n2 < 32) (hop : 5 ≤ k.i.op ∧ k.i.op ≤ 10) :
  Calls prog 62 #[.pointer (some ⟨g, 0, none⟩)] w fun e w' => e = .returned (.tuple #[]) ∧ Mk g w w' (if tkB k.i.op (k.p.x n) (k.p.x n2) = true then { k with nx := k.p.pc + iB k.i.im } else k) := by
 have HR := Hid.mk' hr
 have HF : Hid (∀ W, Row W g (wkc k) 74 → Calls prog 90 #[.pointer (some ⟨g, 0, none⟩)] W fun e w' => e = .returned (.int .u64 (n64 (k.p.x n))) ∧ Below W.heap.size W w') := fun W h => dX h h1 hn
 have HS : Hid (∀ W, Row W g (wkc k) 74 → Calls prog 92 #[.pointer (some ⟨g, 0, none⟩)] W fun e w' => e = .returned (.int .u64 (n64 (k.p.x n2))) ∧ Below W.heap.size W w') := fun W h => fO h h2 hn2
 have HI : Hid (∀ W, Row W g (wkc k) 74 → Calls prog 88 #[.pointer (some ⟨g, 0, none⟩)] W fun e w' => e = .returned (.int .u64 (n64 (iB k.i.im))) ∧ w' = W) := fun W h => dO h
 have HC := Hid.mk' (LO k.i.op hop (k.p.x n) (k.p.x n2))
 have c1 := hr.kls.op
 have hlt := hr.lt
 have := aS w
 have L1 : ∀ x : bB w, x.1.cell? ⟨g, 165, none⟩ = some (.int .i64 k.i.op) := cG hlt c1
 have e1 : IntKind.u64.wrap (n64 k.p.pc + n64 (iB k.i.im)) = n64 (k.p.pc + iB k.i.im) := dA _ _
 obtain ⟨R, hR⟩ : ∃ R : Bool → Wk, R = fun b => if b = true then { k with nx := k.p.pc + iB k.i.im } else k := ⟨_, rfl⟩
 have hRv : (if tkB k.i.op (k.p.x n) (k.p.x n2) = true then { k with nx := k.p.pc + iB k.i.im } else k) = R (tkB k.i.op (k.p.x n) (k.p.x n2)) := by rw [hR]
 rw [hRv]
 have HT : Hid (R true = { k with nx := k.p.pc + iB k.i.im }) := by rw [hR]; exact if_pos rfl
 have HE : Hid (R false = k) := by rw [hR]; exact if_neg (by simp)
 clear hRv hR
 generalize tkB k.i.op (k.p.x n) (k.p.x n2) = z at HC ⊢
 clear hr c1 hop
 cases z with
 | true =>
  go_enter func62, ntmps62
  go_upto_region 0 with fail
  refine bN (x0 := bB.start w) (by kernel_rfl) (by kernel_rfl) ?_
  repeat (go_big_quiet_step (first | (go_at_call 90; exact bJ (HF.out _ (HR.out.later (bB.below _) HR.out.lt))) | (go_at_call 92; exact bJ (HS.out _ (HR.out.later (bB.below _) HR.out.lt))) | (go_at_call 91; exact bJ (HC.out _))))
  refine wpQuiet_nil ?_
  rintro w' ⟨x9, rfl⟩
  have H9 := Hid.mk' (Mk.later HR.out x9.below)
  have HX := Hid.mk' x9.below
  obtain ⟨W1, hW1⟩ : ∃ W1, W1 = x9.1 := ⟨_, rfl⟩
  rw [← hW1] at H9 HX
  clear L1 this
  go_upto_region 2 with fail
  rw [← hW1]
  clear hW1
  have hlt1 := H9.out.r.lt
  have := aS W1
  have L2 : ∀ x : bB W1, x.1.cell? ⟨g, 0, none⟩ = some (.int .u64 (n64 k.p.pc)) := cG hlt1 H9.out.r.kls.pc
  refine aQ (x0 := bB.start W1) 9 (by kernel_rfl) (by kernel_rfl) ?_
  simp only [List.take_succ_cons, List.take_zero, List.drop_succ_cons, List.drop_zero]
  repeat (go_big_quiet_step (first | (go_at_call 88; exact bL (HI.out _ (H9.out.r.later (bB.below _) H9.out.r.lt)))))
  refine wpQuiet_nil ?_
  rintro w' ⟨x8, rfl⟩
  have H8 := Hid.mk' (Mk.later H9.out.r x8.below)
  have c2 := H8.out.r.kls.nx
  have f2 := H8.out.r.froz 175
  go_wp2
  first | go_end0 | refine ZqH (results_none rfl _ _ _) rfl ?_
  exact ⟨rfl, by rw [HT.out]; exact Mk.pre HX.out (H8.out.set (zF _ _))⟩
 | false =>
  go_enter func62, ntmps62
  go_upto_region 0 with fail
  refine bN (x0 := bB.start w) (by kernel_rfl) (by kernel_rfl) ?_
  repeat (go_big_quiet_step (first | (go_at_call 90; exact bJ (HF.out _ (HR.out.later (bB.below _) HR.out.lt))) | (go_at_call 92; exact bJ (HS.out _ (HR.out.later (bB.below _) HR.out.lt))) | (go_at_call 91; exact bJ (HC.out _))))
  refine wpQuiet_nil ?_
  rintro w' ⟨x9, rfl⟩
  have H9 := Hid.mk' (Mk.later HR.out x9.below)
  go_wp2
  first | go_end0 | refine ZqH (results_none rfl _ _ _) rfl ?_
  exact ⟨rfl, by rw [HE.out]; exact H9.out⟩
end Go.Proofs.YtddlmenfcbjoaaaGreatDoor
