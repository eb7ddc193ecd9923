/-
  Granted, Check of the program and of the reference.
-/
import Derived.Test.YtonfobfhdmejkaaDoorPsh
namespace Go.Proofs.YtonfobfhdmejkaaDoor
set_option linter.unusedVariables false
open Go.ChangeShapes Go.WideShapes Go.ChangeAt Go.RowKit Go.Deep
theorem mtF_cases (h : Nat → Nat) (s : Nat) : ∀ n i, (mtF h s n i).1 = -1 ∧ (mtF h s n i).2 = false ∨ ∃ k : Nat, k < i + n ∧ (mtF h s n i).1 = (k : Int)
  | 0, i => .inl ⟨rfl, rfl⟩
  | n + 1, i => by
    rw [mtF]
    split
    · exact .inr ⟨i, by omega, rfl⟩
    · rcases mtF_cases h s n (i + 1) with h1 | ⟨k, hk, h1⟩
      · exact .inl h1
      · exact .inr ⟨k, by omega, h1⟩
theorem MT_cases (h : Nat → Nat) (s : Nat) : MT h s = (-1, false) ∨ ∃ (k : Nat) (q : Bool), k < 16 ∧ MT h s = ((k : Int), q) := by
  rcases mtF_cases h s 16 0 with ⟨h1, h2⟩ | ⟨k, hk, h1⟩
  · exact .inl (Prod.ext h1 h2)
  · exact .inr ⟨k, _, by omega, Prod.ext h1 rfl⟩
theorem bits_i64 (u v : Int) : bits .and .i64 u v = IntKind.i64.wrap ((BitVec.ofInt 64 u &&& BitVec.ofInt 64 v).toNat : Int) := rfl
theorem ofInt_wrap (y : BitVec 64) : BitVec.ofInt 64 (IntKind.i64.wrap (y.toNat : Int)) = y := by
  have e : IntKind.i64.wrap (y.toNat : Int) = wrap64 (n64 y) := by
    unfold wrap64 n64; simp [IntKind.wrap, IntKind.signed, IntKind.bits]; split <;> omega
  rw [e, wrap64_n64, BitVec.ofInt_toInt]
theorem ofInt_rts : ∀ x : BitVec 8, BitVec.ofInt 64 (n8 (rts x)) = BitVec.ofInt 64 (n8 x) &&& BitVec.ofInt 64 7 := by decide +kernel
theorem grant_bits (x : BitVec 8) (b : Int) : bits .and .i64 (bits .and .i64 (n8 x) b) 7 = bits .and .i64 (n8 (rts x)) b := by
  rw [bits_i64 (n8 x) b, bits_i64 _ 7, ofInt_wrap, bits_i64, ofInt_rts]
  congr 3
  rw [BitVec.and_assoc, BitVec.and_assoc, BitVec.and_comm (BitVec.ofInt 64 b)]
theorem check_bits : ∀ x : BitVec 8, ∀ b ∈ [(1 : Int), 2, 3, 4, 5, 6, 7], bits .and .i64 (n8 x) b = bits .and .i64 (n8 (rts x)) b := by decide +kernel
theorem pcl_twice' : ∀ x : BitVec 8, pcl (pcl x) = pcl x := by decide +kernel
theorem PC_twice' (c : Nat → BitVec 8) : PC (PC c) = PC c := funext fun j => pcl_twice' (c j)
theorem PA_twice' (a : Nat → BitVec 64) : PA (PA a) = PA a := funext fun j => by show pad (pad (a j)) = pad (a j); unfold pad; rw [BitVec.and_assoc, BitVec.and_self]
/-- Granted's answer. -/
def grA (c : Nat → BitVec 8) (a : Nat → BitVec 64) (ad : BitVec 64) (b : Int) : Bool := if (MT (hn c a ad 1) 1).1 < 0 then false else (bits .and .i64 (n8 (rts (c (MT (hn c a ad 1) 1).1.toNat))) b != 0)
set_option maxRecDepth 100000 in
set_option maxHeartbeats 2000000 in
theorem Granted_c (c : Nat → BitVec 8) (a : Nat → BitVec 64) (ad : BitVec 64) (b : Int) (w : World) (hT : Tb w) :
    Calls Tryd.prog 7 #[.agg (pc c a), .int .u64 (n64 ad), .int .i64 b] w fun e w' => e = .returned (.bool (grA (PC c) (PA a) ad b)) ∧ Below w.heap.size w w' := by
  obtain ⟨W0, hW0, r0, b0, s0⟩ := start1 w (pc c a) 28
  have HS : Hid (W0.heap.size = w.heap.size + 1) := s0
  clear s0
  have HT : Hid (Tb w) := hT
  clear hT
  have HSp : Hid (∀ g W, Tb W → Row W g (ec (PC c) (PA a)) 39 → Calls Tryd.prog 16 #[.pointer (some ⟨g, 0, none⟩), .int .u64 (n64 ad), .int .i64 1] W fun e w' => e = .returned (.tuple #[.int .i64 (MT (hn (PC c) (PA a) ad 1) 1).1, .bool (MT (hn (PC c) (PA a) ad 1) 1).2]) ∧ Below W.heap.size W w') := fun g W h1 h2 => match_c (PC c) (PA a) (PA_lt a) ad 1 (by omega) g W h1 h2
  obtain ⟨G, hG⟩ : ∃ G, G = grA (PC c) (PA a) ad b := ⟨_, rfl⟩
  rw [← hG]
  rw [grA] at hG
  rcases MT_cases (hn (PC c) (PA a) ad 1) 1 with hm | ⟨k, q, hk, hm⟩
  · rw [hm] at HSp hG
    rw [if_pos (by decide)] at hG
    subst hG
    clear hm
    go_enter Tryd.func7, Tryd.ntmps7
    go_upto_region 1 with fail
    clear hW0
    go_upto_region 2 with (first | (refine wpList_load_rowG (by rfl) _ _ (by rfl) _ (by rfl) 28 _ (0, 0) _ r0.out Tryd.underlying28 (by rfl) (by rw [pc_size]; kernel_rfl) ?_) | (go_at_call 11; refine (of_p c a _).mono ?_; rintro e w1 ⟨rfl, hb1⟩; have HB1 : Hid (Below W0.heap.size W0 w1) := hb1; clear hb1) | (refine wpList_store_new (by rfl) _ _ _ (by rfl) (by rfl) _ _ (by rfl) (by rfl) (by rw [ec_size]; kernel_rfl) (by rw [ec_size]; rfl) (ec_ones _ _) ?_))
    obtain ⟨W2, hW2, r2, b2, s2⟩ := start1 w1 (ec (PC c) (PA a)) 39
    rw [hW2]
    have t1 : Below w.heap.size w w1 := b0.out.trans (HB1.out.mono (by rw [HS.out]; omega))
    have b3 : Hid (Below w.heap.size w W2) := t1.trans (b2.out.mono t1.size)
    have T2 : Hid (Tb W2) := HT.out.next b3.out
    have HGL : Hid (W2.heap.size = w1.heap.size + 1) := s2
    clear t1 s2 b2 hW2 HB1 r0 b0 HS
    generalize w1.heap.size = g at *
    go_wp2_with (go_at_call 16; refine (HSp.out g W2 T2.out r2.out).mono ?_; rintro e w5 ⟨rfl, hb⟩; have HB5 : Hid (Below W2.heap.size W2 w5) := hb; clear hb)
    go_ret
    exact ⟨rfl, b3.out.trans (HB5.out.mono b3.out.size)⟩
  · rw [hm] at HSp hG
    rw [if_neg (by show ¬ (k : Int) < 0; omega)] at hG
    have HG : Hid (G = (bits .and .i64 (n8 (rts (PC c k))) b != 0)) := hG
    have hk2 : (k : Int) < 16 := by omega
    have hk3 : ((k : Int) != -1) = true := by rw [bne_iff_ne]; omega
    have HR : Hid (∀ W, Calls Tryd.prog 17 #[.agg #[.int .u8 (n8 (PC c k)), .int .u64 (n64 (PA a k))]] W fun e w' => e = .returned (.int .i64 (n8 (rts (PC c k)))) ∧ Below W.heap.size W w') := fun W => erights_c _ _ W
    clear hm hG
    go_enter Tryd.func7, Tryd.ntmps7
    go_upto_region 1 with fail
    clear hW0
    go_upto_region 2 with (first | (refine wpList_load_rowG (by rfl) _ _ (by rfl) _ (by rfl) 28 _ (0, 0) _ r0.out Tryd.underlying28 (by rfl) (by rw [pc_size]; kernel_rfl) ?_) | (go_at_call 11; refine (of_p c a _).mono ?_; rintro e w1 ⟨rfl, hb1⟩; have HB1 : Hid (Below W0.heap.size W0 w1) := hb1; clear hb1) | (refine wpList_store_new (by rfl) _ _ _ (by rfl) (by rfl) _ _ (by rfl) (by rfl) (by rw [ec_size]; kernel_rfl) (by rw [ec_size]; rfl) (ec_ones _ _) ?_))
    obtain ⟨W2, hW2, r2, b2, s2⟩ := start1 w1 (ec (PC c) (PA a)) 39
    rw [hW2]
    have t1 : Below w.heap.size w w1 := b0.out.trans (HB1.out.mono (by rw [HS.out]; omega))
    have b3 : Hid (Below w.heap.size w W2) := t1.trans (b2.out.mono t1.size)
    have T2 : Hid (Tb W2) := HT.out.next b3.out
    have HGL : Hid (W2.heap.size = w1.heap.size + 1) := s2
    clear t1 s2 b2 hW2 HB1 r0 b0 HS
    generalize w1.heap.size = g at *
    go_wp2_with (first | (go_at_call 16; refine (HSp.out g W2 T2.out r2.out).mono ?_; rintro e w5 ⟨rfl, hb⟩; have HB5 : Hid (Below W2.heap.size W2 w5) := hb; have r5 := r2.out.later hb (by rw [HGL.out]; omega); have d0 := row_cfg r5 k hk; have d1 := row_addr r5 k hk; clear hb r5) | (go_at_call 17; refine (HR.out _).mono ?_; rintro e w6 ⟨rfl, hb⟩; have HB6 : Hid (Below W2.heap.size W2 w6) := HB5.out.trans (hb.mono HB5.out.size); clear hb))
    go_ret
    exact ⟨by rw [HG.out]; first | done | rfl, b3.out.trans (HB6.out.mono b3.out.size)⟩
end Go.Proofs.YtonfobfhdmejkaaDoor
