/-
  Trm Tra Trb Trc Trd Tre Tla Tmf Tpa.
-/
import Derived.Test.YtidfndgedopghaaGreatDoorM15
import Derived.Test.YtidfndgedopghaaGreatDoorM12
namespace Go.Proofs.YtidfndgedopghaaGreatDoor
set_option linter.unusedVariables false
open Go.ChangeShapes Go.WideShapes Go.ChangeAt Go.RowKit Go.Deep
theorem or_and0 (x u m : BitVec 64) (h : u &&& m = 0#64) : (x ||| u) &&& m = x &&& m := by
  apply BitVec.eq_of_getLsbD_eq
  intro i hi
  have h2 := congrArg (fun z : BitVec 64 => z.getLsbD i) h
  simp only [BitVec.getLsbD_and, BitVec.getLsbD_or, BitVec.getLsbD_zero] at h2 ⊢
  revert h2
  cases x.getLsbD i <;> cases u.getLsbD i <;> cases m.getLsbD i <;> simp
theorem and_tw (x m : BitVec 64) : x &&& m &&& m = x &&& m := by rw [BitVec.and_assoc, BitVec.and_self]
theorem mq_no (v : BitVec 64) : ¬ mq (v &&& 2234504#64 &&& ~~~6144#64) := by
  have e : (v &&& 2234504#64 &&& ~~~6144#64) >>> 11 &&& 3#64 = 0#64 := by
    rw [BitVec.and_assoc, BitVec.ushiftRight_and_distrib, BitVec.and_assoc, show ((2234504#64 &&& ~~~6144#64) >>> 11 &&& 3#64) = 0#64 from by decide]
    simp
  unfold mq
  rw [e]
  decide
theorem stB_and (v : BitVec 64) : stB v &&& 2234504#64 = if mq (v &&& 2234504#64) then v &&& 2234504#64 &&& ~~~6144#64 else v &&& 2234504#64 := by
  unfold stB
  rw [or_and0 _ _ _ (by decide)]
  split
  · rw [BitVec.and_assoc, BitVec.and_assoc, BitVec.and_assoc, show (2234504#64 &&& (~~~6144#64 &&& 2234504#64)) = 2234504#64 &&& ~~~6144#64 from by decide]
  · exact and_tw _ _
theorem stB_stB (v : BitVec 64) : stB (stB v) = stB v := by
  have e : stB (stB v) = (if mq (stB v &&& 2234504#64) then stB v &&& 2234504#64 &&& ~~~6144#64 else stB v &&& 2234504#64) ||| 8589934592#64 := rfl
  rw [e, stB_and]
  clear e
  by_cases h : mq (v &&& 2234504#64)
  · rw [if_pos h, if_neg (mq_no v)]
    unfold stB; rw [if_pos h]
  · rw [if_neg h, if_neg h]
    unfold stB; rw [if_neg h]
theorem prS_prS (s : Nat → BitVec 64) : prS (prS s) = prS s := by
  funext j
  match j with
  | 0 => exact stB_stB _
  | 1 => exact and_tw _ _
  | 2 => exact and_tw _ _
  | 3 => exact and_tw _ _
  | 4 => exact and_tw _ _
  | 5 => exact and_tw _ _
  | 6 => rfl
  | 7 => exact and_tw _ _
  | j + 8 => rfl
theorem pcl_pcl : ∀ x : BitVec 8, pcl (pcl x) = pcl x := by decide +kernel
theorem PC_PC (c : Nat → BitVec 8) : PC (PC c) = PC c := funext fun j => pcl_pcl _
theorem PA_PA (a : Nat → BitVec 64) : PA (PA a) = PA a := funext fun j => and_tw _ _
theorem upd_tw (f : Nat → BitVec 64) (i : Nat) (x : BitVec 64) : upd (upd f i x) i x = upd f i x := by
  funext j; unfold upd; split <;> rfl
theorem rok_rok (v : Bool) (a : BitVec 64) (s : Int) : rok (rok v a s) (if rok v a s then a else 0#64) (if rok v a s then s else 0) = rok v a s := by
  cases h : rok v a s with
  | false => rfl
  | true =>
    have hv : v = true := by revert h; unfold rok; cases v <;> simp
    subst hv
    exact h
theorem PR_PR (k : Cp) : PR (PR k) = PR k := by
  have h := rok_rok k.rv k.ra k.rs
  have e1 : PR (PR k) = { pc := k.pc &&& ~~~1#64 &&& ~~~1#64, x := upd (upd k.x 0 0#64) 0 0#64, md := if (if k.md = 3 then (3 : Int) else 0) = 3 then 3 else 0, wt := k.wt, s := prS (prS k.s), c := PC (PC k.c), a := PA (PA k.a), rv := rok (rok k.rv k.ra k.rs) (if rok k.rv k.ra k.rs then k.ra else 0#64) (if rok k.rv k.ra k.rs then k.rs else 0), ra := if rok (rok k.rv k.ra k.rs) (if rok k.rv k.ra k.rs then k.ra else 0#64) (if rok k.rv k.ra k.rs then k.rs else 0) then (if rok k.rv k.ra k.rs then k.ra else 0#64) else 0#64, rs := if rok (rok k.rv k.ra k.rs) (if rok k.rv k.ra k.rs then k.ra else 0#64) (if rok k.rv k.ra k.rs then k.rs else 0) then (if rok k.rv k.ra k.rs then k.rs else 0) else 0 } := rfl
  rw [e1, h, and_tw, upd_tw, prS_prS, PC_PC, PA_PA]
  unfold PR
  congr 1
  · by_cases h3 : k.md = 3 <;> simp [h3]
  · cases rok k.rv k.ra k.rs <;> simp
  · cases rok k.rv k.ra k.rs <;> simp
/-- What no write turns. -/
structure Sta (a b : Cp) : Prop where
  pc : a.pc = b.pc
  x : a.x = b.x
  md : a.md = b.md
  wt : a.wt = b.wt
  rv : a.rv = b.rv
  ra : a.ra = b.ra
  rs : a.rs = b.rs
theorem Sta.refl (a : Cp) : Sta a a := ⟨rfl, rfl, rfl, rfl, rfl, rfl, rfl⟩
theorem Sta.trans {a b c : Cp} (h : Sta a b) (g : Sta b c) : Sta a c := ⟨h.pc.trans g.pc, h.x.trans g.x, h.md.trans g.md, h.wt.trans g.wt, h.rv.trans g.rv, h.ra.trans g.ra, h.rs.trans g.rs⟩
theorem sta_ite {c : Prop} [Decidable c] {a b k : Cp} (ha : Sta a k) (hb : Sta b k) : Sta (if c then a else b) k := by split <;> assumption
theorem KW_sta (k : Cp) (n : Int) (v : BitVec 64) : Sta (KW k n v) k := by
  unfold KW
  iterate 15 (refine sta_ite ⟨rfl, rfl, rfl, rfl, rfl, rfl, rfl⟩ ?_)
  exact Sta.refl k
theorem PR_sta {a b : Cp} (h : Sta a b) : Sta (PR a) (PR b) := by
  obtain ⟨h1, h2, h3, h4, h5, h6, h7⟩ := h
  unfold PR
  constructor
  · show a.pc &&& _ = b.pc &&& _; rw [h1]
  · show upd a.x _ _ = upd b.x _ _; rw [h2]
  · show (if a.md = 3 then (3 : Int) else 0) = if b.md = 3 then 3 else 0; rw [h3]
  · exact h4
  · show rok a.rv a.ra a.rs = rok b.rv b.ra b.rs; rw [h5, h6, h7]
  · show (if rok a.rv a.ra a.rs then a.ra else 0#64) = if rok b.rv b.ra b.rs then b.ra else 0#64; rw [h5, h6, h7]
  · show (if rok a.rv a.ra a.rs then a.rs else 0) = if rok b.rv b.ra b.rs then b.rs else 0; rw [h5, h6, h7]
theorem WR_sta (k : Cp) (n : Int) (v : BitVec 64) : Sta (WR k n v) (PR k) := by
  unfold WR
  split
  · have h := PR_sta (KW_sta (PR k) n v)
    rwa [PR_PR] at h
  · exact Sta.refl _
theorem PR_WR (k : Cp) (n : Int) (v : BitVec 64) : PR (WR k n v) = WR k n v := by
  unfold WR
  split
  · exact PR_PR _
  · exact PR_PR _
theorem WR_no (k : Cp) (n : Int) (v : BitVec 64) (h : WK k n = false) : WR k n v = PR k := by unfold WR; rw [h]; rfl
theorem WK_u (k : Cp) (n : Int) (h : (PR k).md = 0) : WK k n = false := by unfold WK; rw [h]; simp
end Go.Proofs.YtidfndgedopghaaGreatDoor
namespace Go.Proofs.YtidfndgedopghaaGreatDoor
set_option linter.unusedVariables false
open Go.ChangeShapes Go.WideShapes Go.ChangeAt Go.RowKit Go.Deep
/-- A power of two. -/
def tp (n : Nat) : BitVec 64 := BitVec.twoPow 64 n
theorem tp_bit (n i : Nat) (hn : n < 64) (hi : i < 64) : (tp n).getLsbD i = decide (i = n) := by
  unfold tp
  rw [BitVec.getLsbD_twoPow]
  by_cases h : i = n
  · subst h; simp [hi]
  · simp [h, Ne.symm h]
/-- A word with a bit so. -/
def sB (v : BitVec 64) (n : Nat) (on : Bool) : BitVec 64 := if on then v ||| tp n else v &&& ~~~tp n
theorem sB_bit (v : BitVec 64) (n i : Nat) (hn : n < 64) (hi : i < 64) (on : Bool) : (sB v n on).getLsbD i = if i = n then on else v.getLsbD i := by
  unfold sB
  cases on with
  | true =>
    rw [if_pos rfl, BitVec.getLsbD_or, tp_bit n i hn hi]
    by_cases h : i = n <;> simp [h]
  | false =>
    rw [if_neg (by decide), BitVec.getLsbD_and, BitVec.getLsbD_not, tp_bit n i hn hi]
    by_cases h : i = n <;> simp [h, hi]
/-- A bit that is there already. -/
theorem sB_is (v : BitVec 64) (n : Nat) (hn : n < 64) (on : Bool) (h : v.getLsbD n = on) : sB v n on = v := by
  apply BitVec.eq_of_getLsbD_eq
  intro i hi
  rw [sB_bit v n i hn hi]
  by_cases e : i = n
  · subst e; rw [if_pos rfl, h]
  · rw [if_neg e]
theorem sB_add (v : BitVec 64) (n : Nat) (hn : n < 64) (h : v.getLsbD n = false) : v + tp n = sB v n true := by
  unfold sB
  rw [if_pos rfl]
  refine BitVec.add_eq_or_of_and_eq_zero v (tp n) ?_
  apply BitVec.eq_of_getLsbD_eq
  intro i hi
  rw [BitVec.getLsbD_and, tp_bit n i hn hi]
  by_cases e : i = n
  · subst e; simp [h]
  · simp [e]
theorem sB_sub (v : BitVec 64) (n : Nat) (hn : n < 64) (h : v.getLsbD n = true) : v - tp n = sB v n false := by
  have e : sB v n false + tp n = v := by
    rw [sB_add _ n hn (by rw [sB_bit v n n hn hn, if_pos rfl])]
    apply BitVec.eq_of_getLsbD_eq
    intro i hi
    rw [sB_bit _ n i hn hi, sB_bit _ n i hn hi]
    by_cases e : i = n
    · subst e; rw [if_pos rfl, h]
    · rw [if_neg e, if_neg e]
  calc v - tp n = sB v n false + tp n - tp n := by rw [e]
    _ = sB v n false := by rw [BitVec.add_sub_cancel]
theorem n64_half (v : BitVec 64) (i : Nat) : n64 (v >>> i) / 2 = n64 (v >>> (i + 1)) := by
  rw [show (2 : Int) = 2 ^ 1 from rfl, n64_shr, ← BitVec.shiftRight_add]
theorem n64_odd (v : BitVec 64) (n : Nat) : (n64 (v >>> n) % 2 == 1) = v.getLsbD n := by
  have h1 : v.getLsbD n = decide (v.toNat / 2 ^ n % 2 = 1) := by
    rw [BitVec.getLsbD, Nat.testBit_eq_decide_div_mod_eq]
  rw [h1]
  have h2 : n64 (v >>> n) = ((v.toNat / 2 ^ n : Nat) : Int) := by
    unfold n64
    rw [BitVec.toNat_ushiftRight, Nat.shiftRight_eq_div_pow]
  rw [h2, Bool.eq_iff_iff, beq_iff_eq, decide_eq_true_iff]
  omega
theorem tp_dbl (i : Nat) (h : i < 63) : tp i * 2#64 = tp (i + 1) := by
  unfold tp
  apply BitVec.eq_of_toNat_eq
  rw [BitVec.toNat_mul, BitVec.toNat_twoPow, BitVec.toNat_twoPow]
  rw [Nat.mod_eq_of_lt (Nat.pow_lt_pow_right (by decide) (by omega)), Nat.pow_succ]
  rfl
set_option maxRecDepth 100000 in
theorem rbit_c (v : BitVec 64) (n : Nat) (hn : n < 64) (w : World) : Calls Tryz.prog 169 #[.int .u64 (n64 v), .int .i64 (n : Int)] w fun e w' => e = .returned (.bool (v.getLsbD n)) ∧ w' = w := by
  go_enter Tryz.func169, Tryz.ntmps169
  go_wp2
  go_loopw [0, 5] (fun x i wr => ∃ k : Nat, k ≤ n ∧ i = .int .i64 k ∧ x = .int .u64 (n64 (v >>> k)) ∧ wr = w) (fun _ i _ => n - (intOf i).toNat)
  case atStart => exact ⟨0, Nat.zero_le _, rfl, by rw [BitVec.ushiftRight_zero], rfl⟩
  case round =>
    obtain ⟨k, hk, rfl, rfl, hwr⟩ := hrel
    subst hwr
    by_cases hlt : k < n
    · have hlt2 : (k : Int) < n := by omega
      have hd := n64_half v k
      have hlo := n64_lo (v >>> k)
      have hhi := n64_hi (v >>> k)
      obtain ⟨z, hz⟩ : ∃ z, z = n64 (v >>> (k + 1)) := ⟨_, rfl⟩
      rw [← hz] at hd
      have HZ : Hid (z = n64 (v >>> (k + 1))) := hz
      clear hz
      generalize n64 (v >>> k) = y at hd hlo hhi ⊢
      go_wp2
      go_roundw
      case rel => exact ⟨k + 1, hlt, by go_num, by rw [hd, HZ.out], trivial⟩
      case measure => simp [intOf]; omega
    · obtain rfl : k = n := by omega
      have ho := n64_odd v k
      have hlo := n64_lo (v >>> k)
      generalize n64 (v >>> k) = y at ho hlo ⊢
      have HO : Hid ((y % 2 == 1) = v.getLsbD k) := ho
      clear ho
      go_wp2
      go_ret
      exact ⟨by rw [← HO.out]; rfl, rfl⟩
/-- MPP as a mode; a word with MPP a mode. -/
def mpB (v : BitVec 64) : Int := if v.getLsbD 11 then 3 else 0
def wB (v : BitVec 64) (m : Int) : BitVec 64 := sB (sB v 11 (m == 3)) 12 (m == 3)
set_option maxRecDepth 100000 in
theorem rbefore_c (v : BitVec 64) (w : World) : Calls Tryz.prog 170 #[.int .u64 (n64 v)] w fun e w' => e = .returned (.int .i64 (mpB v)) ∧ w' = w := by
  have HB : Hid (∀ W, Calls Tryz.prog 169 #[.int .u64 (n64 v), .int .i64 11] W fun e w' => e = .returned (.bool (v.getLsbD 11)) ∧ w' = W) := rbit_c v 11 (by decide)
  unfold mpB
  cases hb : v.getLsbD 11 with
  | true =>
    rw [hb] at HB
    rw [if_pos rfl]
    clear hb
    go_enter Tryz.func170, Tryz.ntmps170
    go_wp2_with (go_at_call 169; refine (HB.out _).mono ?_; rintro e w1 ⟨rfl, hw1⟩; subst hw1)
    go_ret
    exact ⟨rfl, rfl⟩
  | false =>
    rw [hb] at HB
    rw [if_neg (by decide)]
    clear hb
    go_enter Tryz.func170, Tryz.ntmps170
    go_wp2_with (go_at_call 169; refine (HB.out _).mono ?_; rintro e w1 ⟨rfl, hw1⟩; subst hw1)
    go_ret
    exact ⟨rfl, rfl⟩
end Go.Proofs.YtidfndgedopghaaGreatDoor
namespace Go.Proofs.YtidfndgedopghaaGreatDoor
set_option linter.unusedVariables false
open Go.ChangeShapes Go.WideShapes Go.ChangeAt Go.RowKit Go.Deep
/-- Does WFI stop here? -/
def stp (K : Cp) : Bool := decide (K.md = 0) && (K.s 0).getLsbD 21
def WTc (k : Cp) : Cp := if stp (PR k) then PR k else { PR k with wt := true }
def WTk (k : Cp) : Bool := !stp (PR k)
/-- The mode that counts. -/
def EF (k : Cp) : Int := if (PR k).md = 3 ∧ ((PR k).s 0).getLsbD 17 = true then mpB ((PR k).s 0) else (PR k).md
/-- mstatus behind a return. -/
def rtS (v : BitVec 64) : BitVec 64 := if mpB v = 0 then sB (wB (sB (sB v 3 (v.getLsbD 7)) 7 true) 0) 17 false else wB (sB (sB v 3 (v.getLsbD 7)) 7 true) 0
def RTk (k : Cp) : Bool := decide ((PR k).md = 3)
def RTc (k : Cp) : Cp := if (PR k).md = 3 then { PR k with pc := (PR k).s 7, md := mpB ((PR k).s 0), s := upd (PR k).s 0 (rtS ((PR k).s 0)), rv := false, ra := 0#64, rs := 0 } else PR k
set_option maxRecDepth 100000 in
set_option maxHeartbeats 1000000 in
theorem rEffective_c (k : Cp) (w : World) : Calls Tryz.prog 154 #[.agg (cpc k)] w fun e w' => e = .returned (.int .i64 (EF k)) ∧ Below w.heap.size w w' := by
  obtain ⟨W0, hW0, r0, b0, s0⟩ := start1 w (cpc k) 32
  have HS : Hid (W0.heap.size = w.heap.size + 1) := s0
  clear s0
  have HP : Hid (∀ W, Calls Tryz.prog 20 #[.agg (cpc k)] W fun e w' => e = .returned (.agg (cpc (PR k))) ∧ Below W.heap.size W w') := fun W => rPr_c k W
  have HM := PR_md k
  obtain ⟨K, hK⟩ : ∃ K, K = PR k := ⟨_, rfl⟩
  rw [← hK] at HP HM
  have HK : Hid (K = PR k) := hK
  clear hK
  go_enter Tryz.func154, Tryz.ntmps154
  go_upto_region 1 with fail
  clear hW0
  go_upto_region 2 with (first | (refine wpList_load_row (by rfl) _ _ (by rfl) _ (by rfl) 32 _ (0, 0) _ r0.out Tryz.underlying32 (by rfl) (info_cpu _) ?_) | (go_at_call 20; refine (HP.out _).mono ?_; rintro e w1 ⟨rfl, hb1⟩; have HB1 : Hid (Below W0.heap.size W0 w1) := hb1; clear hb1) | (refine wpList_store_row (by rfl) _ _ _ (by rfl) (by rfl) _ _ _ (by rfl) (by rfl) (r0.out.later HB1.out (by rw [HS.out]; omega)) (info_cpu _) (by rw [cpc_size, cpc_size]) (cpc_ones _) ?_))
  refine go_on1 (motive := fun W => Code.wp _ _ _ _ W) (a := w) (B := w.heap.size) (n := w1.heap.size) (show Row _ w.heap.size (cpc K) 32 from setRow_heap _ _ _ _ _ _ (r0.out.later HB1.out (by rw [HS.out]; omega))) (below_row (b0.out.trans (HB1.out.mono b0.out.size)) (Nat.le_refl _) _) (by simp) ?_
  clear r0 b0 HS HB1 HP
  intro W2 q0 c0 t0
  have R0 : Hid (Row W2 w.heap.size (cpc K) 32) := q0
  have BB : Hid (Below w.heap.size w W2) := c0
  have Km := q0.cls.md
  have K0 := q0.cls.s0
  have f0 := q0.froz
  clear q0 c0 t0
  have HF : Hid (∀ W, Calls Tryz.prog 170 #[.int .u64 (n64 (K.s 0))] W fun e w' => e = .returned (.int .i64 (mpB (K.s 0))) ∧ w' = W) := rbefore_c (K.s 0)
  have HB : Hid (∀ W, Calls Tryz.prog 169 #[.int .u64 (n64 (K.s 0)), .int .i64 17] W fun e w' => e = .returned (.bool ((K.s 0).getLsbD 17)) ∧ w' = W) := rbit_c (K.s 0) 17 (by decide)
  obtain ⟨b, hb⟩ : ∃ b, b = (K.s 0).getLsbD 17 := ⟨_, rfl⟩
  rw [← hb] at HB
  have Eb : Hid (b = (K.s 0).getLsbD 17) := hb
  clear hb
  rcases HM with h1 | h1
  · have HA : Hid (EF k = 0) := by unfold Hid EF; rw [← HK.out, if_neg (by rw [h1]; simp), h1]
    rw [h1] at Km
    clear h1
    go_wp2_with (go_at_call 169; refine (HB.out _).mono ?_; rintro e wb ⟨rfl, hwb⟩; have hwb2 := hwb.symm; subst hwb2)
    go_ret
    exact ⟨by rw [HA.out]; rfl, BB.out⟩
  · rw [h1] at Km
    cases b with
    | true =>
      have HA : Hid (EF k = mpB (K.s 0)) := by unfold Hid EF; rw [← HK.out, if_pos ⟨h1, Eb.out.symm⟩]
      clear h1
      generalize mpB (K.s 0) = z at HF HA
      go_wp2_with (first | (go_at_call 169; refine (HB.out _).mono ?_; rintro e wb ⟨rfl, hwb⟩; have hwb2 := hwb.symm; subst hwb2) | (go_at_call 170; refine (HF.out _).mono ?_; rintro e wb ⟨rfl, hwb⟩; have hwb2 := hwb.symm; subst hwb2))
      go_ret
      exact ⟨by rw [HA.out]; rfl, BB.out⟩
    | false =>
      have HA : Hid (EF k = 3) := by unfold Hid EF; rw [← HK.out, if_neg (by rw [← Eb.out]; simp), h1]
      clear h1
      go_wp2_with (go_at_call 169; refine (HB.out _).mono ?_; rintro e wb ⟨rfl, hwb⟩; have hwb2 := hwb.symm; subst hwb2)
      go_ret
      exact ⟨by rw [HA.out]; rfl, BB.out⟩
end Go.Proofs.YtidfndgedopghaaGreatDoor
namespace Go.Proofs.YtidfndgedopghaaGreatDoor
set_option linter.unusedVariables false
open Go.ChangeShapes Go.WideShapes Go.ChangeAt Go.RowKit Go.Deep
theorem mpB_is (v : BitVec 64) : mpB v = 0 ∨ mpB v = 3 := by unfold mpB; split <;> simp
theorem cpc_md2 (k : Cp) (v : Int) : (cpc k).setIfInBounds 33 (.int .i64 v) = cpc { k with md := v } := cpc_md k v
end Go.Proofs.YtidfndgedopghaaGreatDoor
namespace Go.Proofs.YtidfndgedopghaaGreatDoor
set_option linter.unusedVariables false
open Go.ChangeShapes Go.WideShapes Go.ChangeAt Go.RowKit Go.Deep
/-- mstatus behind an entry; the handler's address; the Cpu behind an entry. -/
def enS (v : BitVec 64) (md : Int) : BitVec 64 := wB (sB (sB v 7 (v.getLsbD 3)) 3 false) md
def hbs (tv : BitVec 64) : BitVec 64 := tv - tv % 4#64
def hdl (tv cause : BitVec 64) : BitVec 64 := if (cause.getLsbD 63 && tv.getLsbD 0) = true then hbs tv + 4#64 * (cause - tp 63) else hbs tv
def ENc (k : Cp) (cause tval : BitVec 64) : Cp := { PR k with pc := hdl ((PR k).s 1) cause, md := 3, wt := false, s := upd (upd (upd (upd (PR k).s 7 (PR k).pc) 8 cause) 9 tval) 0 (enS ((PR k).s 0) (PR k).md), rv := false, ra := 0#64, rs := 0 }
theorem hbs_n (tv : BitVec 64) : n64 tv - n64 tv % 4 = n64 (hbs tv) := by
  have h1 : n64 tv % 4 = n64 (tv % 4#64) := n64_mod tv 4#64
  have h2 : (tv % 4#64).toNat ≤ tv.toNat := by rw [BitVec.toNat_umod]; exact Nat.mod_le _ _
  rw [h1]
  unfold hbs n64
  rw [BitVec.toNat_sub_of_le (by rw [BitVec.le_def]; exact h2)]
  omega
end Go.Proofs.YtidfndgedopghaaGreatDoor
namespace Go.Proofs.YtidfndgedopghaaGreatDoor
set_option linter.unusedVariables false
open Go.ChangeShapes Go.WideShapes Go.ChangeAt Go.RowKit Go.Deep
/-- The order of the interrupts. -/
def ord (i : Nat) : Nat := [11, 3, 7].getD i 0
theorem ord_lt (i : Nat) : ord i < 64 := by
  unfold ord
  match i with
  | 0 => decide
  | 1 => decide
  | 2 => decide
  | i + 3 => simp
/-- Is that one up and enabled? -/
def pdN (K : Cp) (mip : BitVec 64) (n : Nat) : Bool := mip.getLsbD n && (K.s 2).getLsbD n
/-- From the i-th on. -/
def pdF (K : Cp) (mip : BitVec 64) (i : Nat) : Int × Bool :=
  if i ≤ 0 ∧ pdN K mip 11 = true then (11, true) else if i ≤ 1 ∧ pdN K mip 3 = true then (3, true) else if i ≤ 2 ∧ pdN K mip 7 = true then (7, true) else (0, false)
/-- What is pending. -/
def PD (k : Cp) (mip : BitVec 64) : Int × Bool := if (PR k).md = 3 ∧ ((PR k).s 0).getLsbD 3 = false then (0, false) else pdF (PR k) mip 0
theorem pdF_hit (K : Cp) (mip : BitVec 64) (i : Nat) (hi : i < 3) (h : pdN K mip (ord i) = true) : pdF K mip i = ((ord i : Int), true) := by
  match i, hi with
  | 0, _ => have h : pdN K mip 11 = true := h; simp [pdF, h]; rfl
  | 1, _ => have h : pdN K mip 3 = true := h; simp [pdF, h]; rfl
  | 2, _ => have h : pdN K mip 7 = true := h; simp [pdF, h]; rfl
theorem pdF_miss (K : Cp) (mip : BitVec 64) (i : Nat) (hi : i < 3) (h : pdN K mip (ord i) = false) : pdF K mip i = pdF K mip (i + 1) := by
  match i, hi with
  | 0, _ => have h : pdN K mip 11 = false := h; simp [pdF, h]
  | 1, _ => have h : pdN K mip 3 = false := h; simp [pdF, h]
  | 2, _ => have h : pdN K mip 7 = false := h; simp [pdF, h]
theorem pdF_end (K : Cp) (mip : BitVec 64) : pdF K mip 3 = (0, false) := by simp [pdF]
end Go.Proofs.YtidfndgedopghaaGreatDoor
namespace Go.Proofs.YtidfndgedopghaaGreatDoor
set_option linter.unusedVariables false
open Go.ChangeShapes Go.WideShapes Go.ChangeAt Go.RowKit Go.Deep
def TEf : Prop := ∀ (k : Cp) (W : World), Calls Tryz.prog 101 #[.agg (cpc k)] W fun e w' => e = .returned (.int .i64 (EF k)) ∧ Below W.heap.size W w'
end Go.Proofs.YtidfndgedopghaaGreatDoor
namespace Go.Proofs.YtidfndgedopghaaGreatDoor
set_option linter.unusedVariables false
open Go.ChangeShapes Go.WideShapes Go.ChangeAt Go.RowKit Go.Deep
theorem mq_bits (w : BitVec 64) (h : w.getLsbD 11 = w.getLsbD 12) : ¬ mq w := by
  have h0 : (w >>> 11 &&& 3#64).getLsbD 0 = w.getLsbD 11 := by rw [BitVec.getLsbD_and, BitVec.getLsbD_ushiftRight]; simp
  have h1 : (w >>> 11 &&& 3#64).getLsbD 1 = w.getLsbD 12 := by
    rw [BitVec.getLsbD_and, BitVec.getLsbD_ushiftRight, show (3#64).getLsbD 1 = true by decide, Bool.and_true]
  unfold mq
  rintro (e | e)
  · rw [e] at h0 h1
    rw [← h0, ← h1] at h
    revert h; decide
  · rw [e] at h0 h1
    rw [← h0, ← h1] at h
    revert h; decide
theorem mq_bits2 (w : BitVec 64) (h : ¬ mq w) : w.getLsbD 11 = w.getLsbD 12 := by
  have h0 : (w >>> 11 &&& 3#64).getLsbD 0 = w.getLsbD 11 := by rw [BitVec.getLsbD_and, BitVec.getLsbD_ushiftRight]; simp
  have h1 : (w >>> 11 &&& 3#64).getLsbD 1 = w.getLsbD 12 := by
    rw [BitVec.getLsbD_and, BitVec.getLsbD_ushiftRight, show (3#64).getLsbD 1 = true by decide, Bool.and_true]
  rw [← h0, ← h1]
  unfold mq at h
  rcases four (and3_le (w >>> 11)) with e | e | e | e
  · rw [e]; decide
  · exact absurd (Or.inl e) h
  · exact absurd (Or.inr e) h
  · rw [e]; decide
theorem stB_not (x : BitVec 64) : ¬ mq (stB x) := by
  have e : stB x >>> 11 &&& 3#64 = (stB x &&& 2234504#64) >>> 11 &&& 3#64 := (mask6144 _).symm
  unfold mq
  rw [e, stB_and]
  by_cases h : mq (x &&& 2234504#64)
  · rw [if_pos h]
    exact mq_no x
  · rw [if_neg h]
    exact h
theorem st_mask : ∀ i, i < 64 → (i = 3 ∨ i = 7 ∨ i = 11 ∨ i = 12 ∨ i = 17 ∨ i = 21) → (2234504#64).getLsbD i = true ∧ (8589934592#64).getLsbD i = false := by decide
/-- A word that differs from a proper mstatus in its free bits alone, MPP a mode, is a proper mstatus. -/
theorem stB_fix {v w : BitVec 64} (hv : stB v = v) (hq : ¬ mq w) (h : ∀ i, i < 64 → ¬ (i = 3 ∨ i = 7 ∨ i = 11 ∨ i = 12 ∨ i = 17 ∨ i = 21) → w.getLsbD i = v.getLsbD i) : stB w = w := by
  have hvq : ¬ mq v := by rw [← hv]; exact stB_not v
  rw [stB_alt, if_neg hvq] at hv
  rw [stB_alt, if_neg hq]
  apply BitVec.eq_of_getLsbD_eq
  intro i hi
  rw [BitVec.getLsbD_or, BitVec.getLsbD_and]
  by_cases hs : i = 3 ∨ i = 7 ∨ i = 11 ∨ i = 12 ∨ i = 17 ∨ i = 21
  · obtain ⟨h1, h2⟩ := st_mask i hi hs
    rw [h1, h2]; simp
  · have e := congrArg (fun z : BitVec 64 => z.getLsbD i) hv
    simp only [BitVec.getLsbD_or, BitVec.getLsbD_and] at e
    rw [h i hi hs]
    exact e
theorem wB_bit (v : BitVec 64) (m : Int) (i : Nat) (hi : i < 64) : (wB v m).getLsbD i = if i = 11 ∨ i = 12 then (m == 3) else v.getLsbD i := by
  unfold wB
  rw [sB_bit _ 12 i (by decide) hi, sB_bit _ 11 i (by decide) hi]
  by_cases h1 : i = 12
  · rw [if_pos h1, if_pos (Or.inr h1)]
  · rw [if_neg h1]
    by_cases h2 : i = 11
    · rw [if_pos h2, if_pos (Or.inl h2)]
    · rw [if_neg h2, if_neg (fun h => h.elim h2 h1)]
theorem enS_bit (v : BitVec 64) (m : Int) (i : Nat) (hi : i < 64) : (enS v m).getLsbD i = if i = 11 ∨ i = 12 then (m == 3) else if i = 3 then false else if i = 7 then v.getLsbD 3 else v.getLsbD i := by
  unfold enS
  rw [wB_bit _ _ i hi, sB_bit _ 3 i (by decide) hi, sB_bit _ 7 i (by decide) hi]
theorem enS_pr {v : BitVec 64} (hv : stB v = v) (m : Int) : stB (enS v m) = enS v m := by
  refine stB_fix hv (mq_bits _ ?_) (fun i hi hn => ?_)
  · rw [enS_bit _ _ 11 (by decide), enS_bit _ _ 12 (by decide), if_pos (Or.inl rfl), if_pos (Or.inr rfl)]
  · rw [enS_bit _ _ i hi, if_neg (by omega), if_neg (by omega), if_neg (by omega)]
theorem rtS_bit (v : BitVec 64) (i : Nat) (hi : i < 64) : (rtS v).getLsbD i = if i = 17 ∧ mpB v = 0 then false else if i = 11 ∨ i = 12 then false else if i = 7 then true else if i = 3 then v.getLsbD 7 else v.getLsbD i := by
  unfold rtS
  by_cases h : mpB v = 0
  · rw [if_pos h, sB_bit _ 17 i (by decide) hi, wB_bit _ _ i hi, sB_bit _ 7 i (by decide) hi, sB_bit _ 3 i (by decide) hi]
    by_cases h17 : i = 17
    · rw [if_pos h17, if_pos ⟨h17, h⟩]
    · rw [if_neg h17, if_neg (show ¬ (i = 17 ∧ mpB v = 0) from fun q => h17 q.1)]
      rfl
  · rw [if_neg h, wB_bit _ _ i hi, sB_bit _ 7 i (by decide) hi, sB_bit _ 3 i (by decide) hi, if_neg (show ¬ (i = 17 ∧ mpB v = 0) from fun q => h q.2)]
    rfl
theorem rtS_pr {v : BitVec 64} (hv : stB v = v) : stB (rtS v) = rtS v := by
  refine stB_fix hv (mq_bits _ ?_) (fun i hi hn => ?_)
  · rw [rtS_bit _ 11 (by decide), rtS_bit _ 12 (by decide)]; simp
  · rw [rtS_bit _ i hi, if_neg (by omega), if_neg (by omega), if_neg (by omega), if_neg (by omega)]
/-- Even words. -/
theorem even_of {x : BitVec 64} (h : x.getLsbD 0 = false) : x &&& ~~~1#64 = x := by
  apply BitVec.eq_of_getLsbD_eq
  intro i hi
  rw [BitVec.getLsbD_and, BitVec.getLsbD_not]
  by_cases e : i = 0
  · subst e; rw [h]; rfl
  · have : (1#64).getLsbD i = false := by
      rw [BitVec.getLsbD_one]; simp [e]
    rw [this]; simp [hi]
theorem even_nat {x : BitVec 64} (h : x.toNat % 2 = 0) : x &&& ~~~1#64 = x := by
  refine even_of ?_
  rw [BitVec.getLsbD, Nat.testBit_zero, h]; rfl
theorem hbs_four (tv : BitVec 64) : (hbs tv).toNat % 4 = 0 := by
  have h2 : (tv % 4#64).toNat ≤ tv.toNat := by rw [BitVec.toNat_umod]; exact Nat.mod_le _ _
  unfold hbs
  rw [BitVec.toNat_sub_of_le (by rw [BitVec.le_def]; exact h2), BitVec.toNat_umod]
  have : (4#64).toNat = 4 := rfl
  rw [this]
  omega
theorem hdl_even (tv cause : BitVec 64) : hdl tv cause &&& ~~~1#64 = hdl tv cause := by
  refine even_nat ?_
  have h4 := hbs_four tv
  unfold hdl
  split
  · rw [BitVec.toNat_add, BitVec.toNat_mul]
    have : (4#64).toNat = 4 := rfl
    rw [this]
    omega
  · omega
theorem PR_x0 (k : Cp) : upd (PR k).x 0 0#64 = (PR k).x := upd_tw k.x 0 0#64
theorem pr_s0 (k : Cp) : stB ((PR k).s 0) = (PR k).s 0 := stB_stB (k.s 0)
theorem EN_pr (k : Cp) (cause tval : BitVec 64) : PR (ENc k cause tval) = ENc k cause tval := by
  have e : PR (ENc k cause tval) = { PR (PR k) with pc := hdl ((PR k).s 1) cause &&& ~~~1#64, md := 3, wt := false, s := prS (upd (upd (upd (upd (PR k).s 7 (PR k).pc) 8 cause) 9 tval) 0 (enS ((PR k).s 0) (PR k).md)), rv := false, ra := 0#64, rs := 0 } := rfl
  have hs : prS (upd (upd (upd (upd (PR k).s 7 (PR k).pc) 8 cause) 9 tval) 0 (enS ((PR k).s 0) (PR k).md)) = upd (upd (upd (upd (PR k).s 7 (PR k).pc) 8 cause) 9 tval) 0 (enS ((PR k).s 0) (PR k).md) := by
    have h0 := prS_prS k.s
    funext j
    match j with
    | 0 => exact enS_pr (pr_s0 k) _
    | 1 => exact congrFun h0 1
    | 2 => exact congrFun h0 2
    | 3 => exact congrFun h0 3
    | 4 => exact congrFun h0 4
    | 5 => exact congrFun h0 5
    | 6 => rfl
    | 7 => exact and_tw k.pc (~~~1#64)
    | j + 8 => rfl
  rw [e, PR_PR, hdl_even, hs]
  rfl
theorem RT_pr (k : Cp) : PR (RTc k) = RTc k := by
  unfold RTc
  split
  · have e : PR { PR k with pc := (PR k).s 7, md := mpB ((PR k).s 0), s := upd (PR k).s 0 (rtS ((PR k).s 0)), rv := false, ra := 0#64, rs := 0 } = { PR (PR k) with pc := (PR k).s 7 &&& ~~~1#64, md := if mpB ((PR k).s 0) = 3 then 3 else 0, s := prS (upd (PR k).s 0 (rtS ((PR k).s 0))), rv := false, ra := 0#64, rs := 0 } := rfl
    have hs : prS (upd (PR k).s 0 (rtS ((PR k).s 0))) = upd (PR k).s 0 (rtS ((PR k).s 0)) := by
      have h0 := prS_prS k.s
      funext j
      match j with
      | 0 => exact rtS_pr (pr_s0 k)
      | 1 => exact congrFun h0 1
      | 2 => exact congrFun h0 2
      | 3 => exact congrFun h0 3
      | 4 => exact congrFun h0 4
      | 5 => exact congrFun h0 5
      | 6 => rfl
      | 7 => exact congrFun h0 7
      | j + 8 => rfl
    have hp : (PR k).s 7 &&& ~~~1#64 = (PR k).s 7 := and_tw (k.s 7) (~~~1#64)
    have hm : (if mpB ((PR k).s 0) = 3 then (3 : Int) else 0) = mpB ((PR k).s 0) := by
      rcases mpB_is ((PR k).s 0) with h | h <;> rw [h] <;> rfl
    rw [e, PR_PR, hs, hp, hm]
  · exact PR_PR k
theorem WT_pr (k : Cp) : PR (WTc k) = WTc k := by
  unfold WTc
  split
  · exact PR_PR k
  · have e : PR { PR k with wt := true } = { PR (PR k) with wt := true } := rfl
    rw [e, PR_PR]
/-- A Cpu is taken as Proper makes it. -/
theorem EN_PR (k : Cp) (cause tval : BitVec 64) : ENc (PR k) cause tval = ENc k cause tval := by unfold ENc; rw [PR_PR]
theorem RT_PR (k : Cp) : RTc (PR k) = RTc k ∧ RTk (PR k) = RTk k := by unfold RTc RTk; rw [PR_PR]; exact ⟨rfl, rfl⟩
theorem WT_PR (k : Cp) : WTc (PR k) = WTc k ∧ WTk (PR k) = WTk k := by unfold WTc WTk; rw [PR_PR]; exact ⟨rfl, rfl⟩
theorem EF_PR (k : Cp) : EF (PR k) = EF k := by unfold EF; rw [PR_PR]
theorem PD_PR (k : Cp) (mip : BitVec 64) : PD (PR k) mip = PD k mip := by unfold PD; rw [PR_PR]
end Go.Proofs.YtidfndgedopghaaGreatDoor
namespace Go.Proofs.YtidfndgedopghaaGreatDoor
set_option linter.unusedVariables false
open Go.ChangeShapes Go.WideShapes Go.ChangeAt Go.RowKit Go.Deep
theorem and_tp (v : BitVec 64) (n : Nat) (hn : n < 64) : v &&& tp n = if v.getLsbD n then tp n else 0#64 := by
  apply BitVec.eq_of_getLsbD_eq
  intro i hi
  rw [BitVec.getLsbD_and, tp_bit n i hn hi]
  by_cases h : i = n
  · subst h
    cases hv : v.getLsbD i
    · simp
    · simp [tp_bit i i hi hi]
  · cases hv : v.getLsbD n
    · simp [h]
    · simp [h, tp_bit n i hn hi]
theorem tp_pos (n : Nat) (hn : n < 64) : n64 (tp n) ≠ 0 := by
  intro h
  have h0 := n64_zero h
  have h1 := tp_bit n n hn hn
  rw [h0] at h1
  simp at h1
/-- Is a bit set? -/
theorem bit_ne (v : BitVec 64) (n : Nat) (hn : n < 64) : (n64 (v &&& tp n) != 0) = v.getLsbD n := by
  rw [and_tp v n hn]
  cases v.getLsbD n
  · rfl
  · rw [if_pos rfl]; simpa using tp_pos n hn
theorem bit_eq (v : BitVec 64) (n : Nat) (hn : n < 64) : (n64 (v &&& tp n) == 0) = !v.getLsbD n := by
  rw [← bit_ne v n hn, bne, Bool.not_not]
theorem m6144 : ∀ i, i < 64 → (6144#64).getLsbD i = (decide (i = 11) || decide (i = 12)) := by decide
/-- A word with MPP a mode. -/
theorem wB_0 (v : BitVec 64) : v &&& ~~~6144#64 ||| 0#64 <<< 11 &&& 6144#64 = wB v 0 := by
  rw [show (0#64 <<< 11 &&& 6144#64 : BitVec 64) = 0#64 by decide]
  apply BitVec.eq_of_getLsbD_eq
  intro i hi
  rw [wB_bit v 0 i hi, BitVec.getLsbD_or, BitVec.getLsbD_and, BitVec.getLsbD_not, m6144 i hi]
  by_cases h1 : i = 11
  · simp [h1]
  · by_cases h2 : i = 12
    · simp [h2]
    · simp [h1, h2, hi]
theorem wB_3 (v : BitVec 64) : v &&& ~~~6144#64 ||| 3#64 <<< 11 &&& 6144#64 = wB v 3 := by
  rw [show (3#64 <<< 11 &&& 6144#64 : BitVec 64) = 6144#64 by decide]
  apply BitVec.eq_of_getLsbD_eq
  intro i hi
  rw [wB_bit v 3 i hi, BitVec.getLsbD_or, BitVec.getLsbD_and, BitVec.getLsbD_not, m6144 i hi]
  by_cases h1 : i = 11
  · simp [h1]
  · by_cases h2 : i = 12
    · simp [h2]
    · simp [h1, h2, hi]
/-- MPP of a proper mstatus is a mode. -/
theorem bf_mp (v : BitVec 64) (h : v.getLsbD 11 = v.getLsbD 12) : n64 (bfB v) = mpB v := by
  have h0 : (v >>> 11 &&& 3#64).getLsbD 0 = v.getLsbD 11 := by rw [BitVec.getLsbD_and, BitVec.getLsbD_ushiftRight]; simp
  have h1 : (v >>> 11 &&& 3#64).getLsbD 1 = v.getLsbD 12 := by
    rw [BitVec.getLsbD_and, BitVec.getLsbD_ushiftRight, show (3#64).getLsbD 1 = true by decide, Bool.and_true]
  unfold mpB bfB
  rw [← h0, ← h1] at h
  rw [← h0]
  rcases four (and3_le (v >>> 11)) with e | e | e | e
  · rw [e]; decide
  · rw [e] at h; exact absurd h (by decide)
  · rw [e] at h; exact absurd h (by decide)
  · rw [e]; decide
theorem pr_1112 (k : Cp) : ((PR k).s 0).getLsbD 11 = ((PR k).s 0).getLsbD 12 := mq_bits2 _ (by rw [← pr_s0]; exact stB_not _)
/-- mstatus behind a return, as the program makes it. -/
theorem rtS_0 (v : BitVec 64) (h : mpB v = 0) : wB (sB (sB (sB v 17 false) 3 (v.getLsbD 7)) 7 true) 0 = rtS v := by
  apply BitVec.eq_of_getLsbD_eq
  intro i hi
  rw [rtS_bit v i hi, wB_bit _ _ i hi, sB_bit _ 7 i (by decide) hi, sB_bit _ 3 i (by decide) hi, sB_bit _ 17 i (by decide) hi]
  by_cases h17 : i = 17
  · subst h17; simp [h]
  · simp [h17]
theorem rtS_3 (v : BitVec 64) (h : mpB v = 3) : wB (sB (sB v 3 (v.getLsbD 7)) 7 true) 0 = rtS v := by
  unfold rtS
  rw [if_neg (by rw [h]; decide)]
/-- The handler's base. -/
theorem hbs_and (tv : BitVec 64) : tv &&& ~~~3#64 = hbs tv := by
  have e : tv % 4#64 = tv &&& 3#64 := by
    apply BitVec.eq_of_toNat_eq
    rw [BitVec.toNat_umod, BitVec.toNat_and, show (3#64).toNat = 2 ^ 2 - 1 from rfl, Nat.and_two_pow_sub_one_eq_mod]
    rfl
  have s : (tv &&& ~~~3#64) + (tv &&& 3#64) = tv := by
    rw [BitVec.add_eq_or_of_and_eq_zero]
    · apply BitVec.eq_of_getLsbD_eq
      intro i hi
      simp only [BitVec.getLsbD_or, BitVec.getLsbD_and, BitVec.getLsbD_not]
      cases tv.getLsbD i <;> cases (3#64).getLsbD i <;> simp [hi]
    · apply BitVec.eq_of_getLsbD_eq
      intro i hi
      simp only [BitVec.getLsbD_and, BitVec.getLsbD_not, BitVec.getLsbD_zero]
      cases tv.getLsbD i <;> cases (3#64).getLsbD i <;> simp
  unfold hbs
  rw [e]
  calc tv &&& ~~~3#64 = (tv &&& ~~~3#64) + (tv &&& 3#64) - (tv &&& 3#64) := by rw [BitVec.add_sub_cancel]
    _ = tv - (tv &&& 3#64) := by rw [s]
theorem withB_c (v : BitVec 64) (m : Int) (hm : m = 0 ∨ m = 3) (w : World) : Calls Tryz.prog 163 #[.int .u64 (n64 v), .int .i64 m] w fun e w' => e = .returned (.int .u64 (n64 (wB v m))) ∧ w' = w := by
  rcases hm with rfl | rfl
  · have h := withBefore_c v 0#64 (by decide) w
    rw [wB_0] at h; exact h
  · have h := withBefore_c v 3#64 (by decide) w
    rw [wB_3] at h; exact h
/-- The first of the lines that are up. -/
def fsB (c11 c3 c7 : Bool) (i : Nat) : Int × Bool :=
  if i ≤ 0 ∧ c11 = true then (11, true) else if i ≤ 1 ∧ c3 = true then (3, true) else if i ≤ 2 ∧ c7 = true then (7, true) else (0, false)
theorem fsB_0t : ∀ c3 c7, fsB true c3 c7 0 = (11, true) := by decide
theorem fsB_0f : ∀ c3 c7, fsB false c3 c7 0 = fsB false c3 c7 1 := by decide
theorem fsB_1t : ∀ c11 c7, fsB c11 true c7 1 = (3, true) := by decide
theorem fsB_1f : ∀ c11 c7, fsB c11 false c7 1 = fsB c11 false c7 2 := by decide
theorem fsB_2t : ∀ c11 c3, fsB c11 c3 true 2 = (7, true) := by decide
theorem fsB_2f : ∀ c11 c3, fsB c11 c3 false 2 = fsB c11 c3 false 3 := by decide
theorem fsB_3 : ∀ c11 c3 c7, fsB c11 c3 c7 3 = (0, false) := by decide
def fsN (b : BitVec 64) (i : Nat) : Int × Bool := fsB (b.getLsbD 11) (b.getLsbD 3) (b.getLsbD 7) i
theorem fs_pd (K : Cp) (mip : BitVec 64) : fsN (mip &&& K.s 2) 0 = pdF K mip 0 := by
  unfold fsN fsB pdF pdN
  rw [BitVec.getLsbD_and, BitVec.getLsbD_and, BitVec.getLsbD_and]
theorem bit_sh (b : BitVec 64) (n : Nat) : (n64 (b >>> n &&& 1#64) != 0) = b.getLsbD n := by
  have h := n64_odd b n
  have e : n64 (b >>> n &&& 1#64) = n64 (b >>> n) % 2 := by
    unfold n64
    rw [BitVec.toNat_and, show (1#64).toNat = 2 ^ 1 - 1 from rfl, Nat.and_two_pow_sub_one_eq_mod]
    rfl
  rw [e, ← h]
  have := n64_lo (b >>> n)
  rw [Bool.eq_iff_iff]
  simp only [bne_iff_ne, ne_eq, beq_iff_eq]
  omega
end Go.Proofs.YtidfndgedopghaaGreatDoor
