import Derived.Test.YtlhgphokfpnfeaaGreatDoorK13
import Derived.Test.YtlhgphokfpnfeaaGreatDoorK22
import Derived.Test.YtlhgphokfpnfeaaGreatDoorK07
import Derived.Test.YtlhgphokfpnfeaaGreatDoorK28
import Derived.PinnedBridge
import Derived.Lay
import Derived.LaidOnce
import Derived.SevenTiedAt
import Derived.Lib.LaidU8T
namespace Go.Proofs.YtlhgphokfpnfeaaGreatDoor
set_option linter.unusedVariables false
open Go.ChangeShapes Go.WideShapes Go.ChangeAt Go.RowKit Go.Deep
theorem splice_get {α : Type} (l cs : List α) (k : Nat) (h : k + cs.length ≤ l.length) (j : Nat) : (splice l k cs)[j]? = if k ≤ j ∧ j < k + cs.length then cs[j - k]? else l[j]? := by
  unfold splice
  by_cases h1 : j < k
  · rw [if_neg (by omega), List.getElem?_append_left (by simp; omega), List.getElem?_take_of_lt h1]
  · rw [List.getElem?_append_right (by simp; omega)]
    have e : (l.take k).length = k := by simp; omega
    rw [e]
    by_cases h2 : j < k + cs.length
    · rw [if_pos ⟨by omega, h2⟩, List.getElem?_append_left (by omega)]
    · rw [if_neg (by omega), List.getElem?_append_right (by omega), List.getElem?_drop]
      congr 1
      omega
/-- Whether an entry has a byte. -/
def hdB (c : Nat → BitVec 8) (a : Nat → BitVec 64) (k : Nat) (x : BitVec 64) : Bool := match spn c a k with | none => false | some (f, l) => inR f l x
theorem hn_zero (c : Nat → BitVec 8) (a : Nat → BitVec 64) (ad : BitVec 64) (k : Nat) : hn c a ad 0 k = 0 := by unfold hn; split <;> rfl
theorem hn_succ (c : Nat → BitVec 8) (a : Nat → BitVec 64) (ad : BitVec 64) (j k : Nat) : hn c a ad (j + 1) k = hn c a ad j k + (if hdB c a k (ad + BitVec.ofNat 64 j) = true then 1 else 0) := by
  unfold hn hdB
  cases spn c a k with
  | none => rfl
  | some fl => rfl
theorem hn_le (c : Nat → BitVec 8) (a : Nat → BitVec 64) (ad : BitVec 64) (j k : Nat) : hn c a ad j k ≤ j := by
  unfold hn; split
  · omega
  · exact hcn_le _ _ _ _
/-- Granted's answer. -/
def grA (c : Nat → BitVec 8) (a : Nat → BitVec 64) (ad : BitVec 64) (b : Int) : Bool := if (MT (hn c a ad 1) 1).1 < 0 then false else (bits .and .i64 (n8 (rts (c (MT (hn c a ad 1) 1).1.toNat))) b != 0)
set_option maxRecDepth 100000 in
set_option maxHeartbeats 2000000 in
theorem Granted_c (c : Nat → BitVec 8) (a : Nat → BitVec 64) (ad : BitVec 64) (b : Int) (w : World) (hT : Tb w) :
    Calls Tryz.prog 17 #[.agg (pc c a), .int .u64 (n64 ad), .int .i64 b] w fun e w' => e = .returned (.bool (grA (PC c) (PA a) ad b)) ∧ Below w.heap.size w w' := by
  obtain ⟨W0, hW0, r0, b0, s0⟩ := start1 w (pc c a) 27
  have HS : Hid (W0.heap.size = w.heap.size + 1) := s0
  clear s0
  have HT : Hid (Tb w) := hT
  clear hT
  have HSp : Hid (∀ g W, Tb W → Row W g (ec (PC c) (PA a)) 79 → Calls Tryz.prog 31 #[.pointer (some ⟨g, 0, none⟩), .int .u64 (n64 ad), .int .i64 1] W fun e w' => e = .returned (.tuple #[.int .i64 (MT (hn (PC c) (PA a) ad 1) 1).1, .bool (MT (hn (PC c) (PA a) ad 1) 1).2]) ∧ Below W.heap.size W w') := fun g W h1 h2 => match_c (PC c) (PA a) (PA_lt a) ad 1 (by omega) g W h1 h2
  obtain ⟨G, hG⟩ : ∃ G, G = grA (PC c) (PA a) ad b := ⟨_, rfl⟩
  rw [← hG]
  rw [grA] at hG
  rcases MT_cases (hn (PC c) (PA a) ad 1) 1 with hm | ⟨k, q, hk, hm⟩
  · rw [hm] at HSp hG
    rw [if_pos (by decide)] at hG
    subst hG
    clear hm
    go_enter Tryz.func17, Tryz.ntmps17
    go_upto_region 1 with fail
    clear hW0
    go_upto_region 2 with (first | (refine wpList_load_rowG (by rfl) _ _ (by rfl) _ (by rfl) 27 _ (0, 0) _ r0.out Tryz.underlying27 (by rfl) (by rw [pc_size]; kernel_rfl) ?_) | (go_at_call 30; refine (of_p c a _).mono ?_; rintro e w1 ⟨rfl, hb1⟩; have HB1 : Hid (Below W0.heap.size W0 w1) := hb1; clear hb1) | (refine wpList_store_new (by rfl) _ _ _ (by rfl) (by rfl) _ _ (by rfl) (by rfl) (by rw [ec_size]; kernel_rfl) (by rw [ec_size]; rfl) (ec_ones _ _) ?_))
    obtain ⟨W2, hW2, r2, b2, s2⟩ := start1 w1 (ec (PC c) (PA a)) 79
    rw [hW2]
    have t1 : Below w.heap.size w w1 := b0.out.trans (HB1.out.mono (by rw [HS.out]; omega))
    have b3 : Hid (Below w.heap.size w W2) := t1.trans (b2.out.mono t1.size)
    have T2 : Hid (Tb W2) := HT.out.next b3.out
    have HGL : Hid (W2.heap.size = w1.heap.size + 1) := s2
    clear t1 s2 b2 hW2 HB1 r0 b0 HS
    generalize w1.heap.size = g at *
    go_wp2_with (go_at_call 31; refine (HSp.out g W2 T2.out r2.out).mono ?_; rintro e w5 ⟨rfl, hb⟩; have HB5 : Hid (Below W2.heap.size W2 w5) := hb; clear hb)
    go_ret
    exact ⟨rfl, b3.out.trans (HB5.out.mono b3.out.size)⟩
  · rw [hm] at HSp hG
    rw [if_neg (by show ¬ (k : Int) < 0; omega)] at hG
    have HG : Hid (G = (bits .and .i64 (n8 (rts (PC c k))) b != 0)) := hG
    have hk2 : (k : Int) < 16 := by omega
    have hk3 : ((k : Int) != -1) = true := by rw [bne_iff_ne]; omega
    have HR : Hid (∀ W, Calls Tryz.prog 33 #[.agg #[.int .u8 (n8 (PC c k)), .int .u64 (n64 (PA a k))]] W fun e w' => e = .returned (.int .i64 (n8 (rts (PC c k)))) ∧ Below W.heap.size W w') := fun W => erights_c _ _ W
    clear hm hG
    go_enter Tryz.func17, Tryz.ntmps17
    go_upto_region 1 with fail
    clear hW0
    go_upto_region 2 with (first | (refine wpList_load_rowG (by rfl) _ _ (by rfl) _ (by rfl) 27 _ (0, 0) _ r0.out Tryz.underlying27 (by rfl) (by rw [pc_size]; kernel_rfl) ?_) | (go_at_call 30; refine (of_p c a _).mono ?_; rintro e w1 ⟨rfl, hb1⟩; have HB1 : Hid (Below W0.heap.size W0 w1) := hb1; clear hb1) | (refine wpList_store_new (by rfl) _ _ _ (by rfl) (by rfl) _ _ (by rfl) (by rfl) (by rw [ec_size]; kernel_rfl) (by rw [ec_size]; rfl) (ec_ones _ _) ?_))
    obtain ⟨W2, hW2, r2, b2, s2⟩ := start1 w1 (ec (PC c) (PA a)) 79
    rw [hW2]
    have t1 : Below w.heap.size w w1 := b0.out.trans (HB1.out.mono (by rw [HS.out]; omega))
    have b3 : Hid (Below w.heap.size w W2) := t1.trans (b2.out.mono t1.size)
    have T2 : Hid (Tb W2) := HT.out.next b3.out
    have HGL : Hid (W2.heap.size = w1.heap.size + 1) := s2
    clear t1 s2 b2 hW2 HB1 r0 b0 HS
    generalize w1.heap.size = g at *
    go_wp2_with (first | (go_at_call 31; refine (HSp.out g W2 T2.out r2.out).mono ?_; rintro e w5 ⟨rfl, hb⟩; have HB5 : Hid (Below W2.heap.size W2 w5) := hb; have r5 := r2.out.later hb (by rw [HGL.out]; omega); have d0 := row_cfg r5 k hk; have d1 := row_addr r5 k hk; clear hb r5) | (go_at_call 33; refine (HR.out _).mono ?_; rintro e w6 ⟨rfl, hb⟩; have HB6 : Hid (Below W2.heap.size W2 w6) := HB5.out.trans (hb.mono HB5.out.size); clear hb))
    go_ret
    exact ⟨by rw [HG.out]; first | done | rfl, b3.out.trans (HB6.out.mono b3.out.size)⟩
theorem MV_none {S : St} {k : Wy} {z : Nat} (h : fbd S k z = tN) : MV S k z none = ⟨mvB S k z, 0#64, tN, mvT S k z⟩ := by simp only [MV, h]; rfl
theorem MV_some {S : St} {k : Wy} {z : Nat} {f : BitVec 64 → BitVec 64} (h : fbd S k z = tN) : MV S k z (some f) = ⟨mvB S k z, lowB z (f (mvB S k z)), tN, ((mvT S k z).sto2 (n64 k.ad) z (n64 (lowB z (f (mvB S k z))))).2⟩ := by simp only [MV, h]; rfl
end Go.Proofs.YtlhgphokfpnfeaaGreatDoor
