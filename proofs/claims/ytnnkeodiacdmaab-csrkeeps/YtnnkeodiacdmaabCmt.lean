/-
  Proper twice; what a write leaves: without memory.
-/
import Derived.Test.YtnnkeodiacdmaabCrn
namespace Go.Proofs.Ytnnkeodiacdmaab
set_option linter.unusedVariables false
open Go.ChangeShapes Go.WideShapes Go.ChangeAt Go.RowKit Go.Deep
theorem or_and0 (x u m : BitVec 64) (h : u &&& m = 0#64) : (x ||| u) &&& m = x &&& m := by
  apply BitVec.eq_of_getLsbD_eq
  intro i hi
  have h2 := congrArg (fun z : BitVec 64 => z.getLsbD i) h
  simp only [BitVec.getLsbD_and, BitVec.getLsbD_or, BitVec.getLsbD_zero] at h2 ⊢
  revert h2
  cases x.getLsbD i <;> cases u.getLsbD i <;> cases m.getLsbD i <;> simp
theorem and_tw (x m : BitVec 64) : x &&& m &&& m = x &&& m := by rw [BitVec.and_assoc, BitVec.and_self]
theorem mq_no (v : BitVec 64) : ¬ mq (v &&& 2234504#64 &&& ~~~6144#64) := by
  have e : (v &&& 2234504#64 &&& ~~~6144#64) >>> 11 &&& 3#64 = 0#64 := by
    rw [BitVec.and_assoc, BitVec.ushiftRight_and_distrib, BitVec.and_assoc, show ((2234504#64 &&& ~~~6144#64) >>> 11 &&& 3#64) = 0#64 from by decide]
    simp
  unfold mq
  rw [e]
  decide
theorem stB_and (v : BitVec 64) : stB v &&& 2234504#64 = if mq (v &&& 2234504#64) then v &&& 2234504#64 &&& ~~~6144#64 else v &&& 2234504#64 := by
  unfold stB
  rw [or_and0 _ _ _ (by decide)]
  split
  · rw [BitVec.and_assoc, BitVec.and_assoc, BitVec.and_assoc, show (2234504#64 &&& (~~~6144#64 &&& 2234504#64)) = 2234504#64 &&& ~~~6144#64 from by decide]
  · exact and_tw _ _
theorem stB_stB (v : BitVec 64) : stB (stB v) = stB v := by
  have e : stB (stB v) = (if mq (stB v &&& 2234504#64) then stB v &&& 2234504#64 &&& ~~~6144#64 else stB v &&& 2234504#64) ||| 8589934592#64 := rfl
  rw [e, stB_and]
  clear e
  by_cases h : mq (v &&& 2234504#64)
  · rw [if_pos h, if_neg (mq_no v)]
    unfold stB; rw [if_pos h]
  · rw [if_neg h, if_neg h]
    unfold stB; rw [if_neg h]
theorem prS_prS (s : Nat → BitVec 64) : prS (prS s) = prS s := by
  funext j
  match j with
  | 0 => exact stB_stB _
  | 1 => exact and_tw _ _
  | 2 => exact and_tw _ _
  | 3 => exact and_tw _ _
  | 4 => exact and_tw _ _
  | 5 => exact and_tw _ _
  | 6 => rfl
  | 7 => exact and_tw _ _
  | j + 8 => rfl
theorem pcl_pcl : ∀ x : BitVec 8, pcl (pcl x) = pcl x := by decide +kernel
theorem PC_PC (c : Nat → BitVec 8) : PC (PC c) = PC c := funext fun j => pcl_pcl _
theorem PA_PA (a : Nat → BitVec 64) : PA (PA a) = PA a := funext fun j => and_tw _ _
theorem upd_tw (f : Nat → BitVec 64) (i : Nat) (x : BitVec 64) : upd (upd f i x) i x = upd f i x := by
  funext j; unfold upd; split <;> rfl
theorem rok_rok (v : Bool) (a : BitVec 64) (s : Int) : rok (rok v a s) (if rok v a s then a else 0#64) (if rok v a s then s else 0) = rok v a s := by
  cases h : rok v a s with
  | false => rfl
  | true =>
    have hv : v = true := by revert h; unfold rok; cases v <;> simp
    subst hv
    exact h
theorem PR_PR (k : Cp) : PR (PR k) = PR k := by
  have h := rok_rok k.rv k.ra k.rs
  have e1 : PR (PR k) = { pc := k.pc &&& ~~~1#64 &&& ~~~1#64, x := upd (upd k.x 0 0#64) 0 0#64, md := if (if k.md = 3 then (3 : Int) else 0) = 3 then 3 else 0, wt := k.wt, s := prS (prS k.s), c := PC (PC k.c), a := PA (PA k.a), rv := rok (rok k.rv k.ra k.rs) (if rok k.rv k.ra k.rs then k.ra else 0#64) (if rok k.rv k.ra k.rs then k.rs else 0), ra := if rok (rok k.rv k.ra k.rs) (if rok k.rv k.ra k.rs then k.ra else 0#64) (if rok k.rv k.ra k.rs then k.rs else 0) then (if rok k.rv k.ra k.rs then k.ra else 0#64) else 0#64, rs := if rok (rok k.rv k.ra k.rs) (if rok k.rv k.ra k.rs then k.ra else 0#64) (if rok k.rv k.ra k.rs then k.rs else 0) then (if rok k.rv k.ra k.rs then k.rs else 0) else 0 } := rfl
  rw [e1, h, and_tw, upd_tw, prS_prS, PC_PC, PA_PA]
  unfold PR
  congr 1
  · by_cases h3 : k.md = 3 <;> simp [h3]
  · cases rok k.rv k.ra k.rs <;> simp
  · cases rok k.rv k.ra k.rs <;> simp
/-- What no write turns. -/
structure Sta (a b : Cp) : Prop where
  pc : a.pc = b.pc
  x : a.x = b.x
  md : a.md = b.md
  wt : a.wt = b.wt
  rv : a.rv = b.rv
  ra : a.ra = b.ra
  rs : a.rs = b.rs
theorem Sta.refl (a : Cp) : Sta a a := ⟨rfl, rfl, rfl, rfl, rfl, rfl, rfl⟩
theorem Sta.trans {a b c : Cp} (h : Sta a b) (g : Sta b c) : Sta a c := ⟨h.pc.trans g.pc, h.x.trans g.x, h.md.trans g.md, h.wt.trans g.wt, h.rv.trans g.rv, h.ra.trans g.ra, h.rs.trans g.rs⟩
theorem sta_ite {c : Prop} [Decidable c] {a b k : Cp} (ha : Sta a k) (hb : Sta b k) : Sta (if c then a else b) k := by split <;> assumption
theorem KW_sta (k : Cp) (n : Int) (v : BitVec 64) : Sta (KW k n v) k := by
  unfold KW
  iterate 15 (refine sta_ite ⟨rfl, rfl, rfl, rfl, rfl, rfl, rfl⟩ ?_)
  exact Sta.refl k
theorem PR_sta {a b : Cp} (h : Sta a b) : Sta (PR a) (PR b) := by
  obtain ⟨h1, h2, h3, h4, h5, h6, h7⟩ := h
  unfold PR
  constructor
  · show a.pc &&& _ = b.pc &&& _; rw [h1]
  · show upd a.x _ _ = upd b.x _ _; rw [h2]
  · show (if a.md = 3 then (3 : Int) else 0) = if b.md = 3 then 3 else 0; rw [h3]
  · exact h4
  · show rok a.rv a.ra a.rs = rok b.rv b.ra b.rs; rw [h5, h6, h7]
  · show (if rok a.rv a.ra a.rs then a.ra else 0#64) = if rok b.rv b.ra b.rs then b.ra else 0#64; rw [h5, h6, h7]
  · show (if rok a.rv a.ra a.rs then a.rs else 0) = if rok b.rv b.ra b.rs then b.rs else 0; rw [h5, h6, h7]
theorem WR_sta (k : Cp) (n : Int) (v : BitVec 64) : Sta (WR k n v) (PR k) := by
  unfold WR
  split
  · have h := PR_sta (KW_sta (PR k) n v)
    rwa [PR_PR] at h
  · exact Sta.refl _
theorem PR_WR (k : Cp) (n : Int) (v : BitVec 64) : PR (WR k n v) = WR k n v := by
  unfold WR
  split
  · exact PR_PR _
  · exact PR_PR _
theorem WR_no (k : Cp) (n : Int) (v : BitVec 64) (h : WK k n = false) : WR k n v = PR k := by unfold WR; rw [h]; rfl
theorem WK_u (k : Cp) (n : Int) (h : (PR k).md = 0) : WK k n = false := by unfold WK; rw [h]; simp
end Go.Proofs.Ytnnkeodiacdmaab
