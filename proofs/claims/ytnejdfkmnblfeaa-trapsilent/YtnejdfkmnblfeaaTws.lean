/-
  TrapSilent: its walk.
-/
import Derived.Test.YtnejdfkmnblfeaaTwo
namespace Go.Proofs.Ytnejdfkmnblfeaa
set_option linter.unusedVariables false
open Go.ChangeShapes Go.WideShapes Go.ChangeAt Go.RowKit Go.Deep
theorem EN_md (k : Cp) (c t : BitVec 64) : (ENc k c t).md = 3 := rfl
theorem EN_s0 (k : Cp) (c t : BitVec 64) : (ENc k c t).s 0 = enS ((PR k).s 0) (PR k).md := rfl
theorem en_3 (k : Cp) (c t : BitVec 64) : ((ENc k c t).s 0).getLsbD 3 = false := by
  rw [EN_s0, enS_bit _ _ 3 (by decide)]; simp
/-- Behind Enter nothing is pending. -/
theorem pd_en (k : Cp) (c t m : BitVec 64) : PD (ENc k c t) m = (0, false) := by
  rw [pd_bits, EN_pr, if_pos ⟨EN_md k c t, en_3 k c t⟩]
/-- There and back. -/
def BKc (k : Cp) (c t : BitVec 64) : Cp := RTc (ENc k c t)
theorem bk_eq (k : Cp) (c t : BitVec 64) : BKc k c t = { ENc k c t with pc := (ENc k c t).s 7, md := mpB ((ENc k c t).s 0), s := upd (ENc k c t).s 0 (rtS ((ENc k c t).s 0)), rv := false, ra := 0#64, rs := 0 } := by
  unfold BKc RTc
  rw [EN_pr, if_pos (EN_md k c t)]
theorem bk_ok (k : Cp) (c t : BitVec 64) : RTk (ENc k c t) = true := by unfold RTk; rw [EN_pr, EN_md]; rfl
theorem mp_en (k : Cp) : mpB (enS ((PR k).s 0) (PR k).md) = (PR k).md := by
  unfold mpB
  rw [enS_bit _ _ 11 (by decide), if_pos (Or.inl rfl)]
  rcases PR_md k with h | h <;> rw [h] <;> rfl
theorem bk_md (k : Cp) (c t : BitVec 64) : (BKc k c t).md = (PR k).md := by rw [bk_eq]; exact mp_en k
theorem bk_s0 (k : Cp) (c t : BitVec 64) : (BKc k c t).s 0 = rtS (enS ((PR k).s 0) (PR k).md) := by rw [bk_eq]; rfl
theorem bk_s2 (k : Cp) (c t : BitVec 64) : (BKc k c t).s 2 = (PR k).s 2 := by rw [bk_eq]; rfl
theorem bk_3 (k : Cp) (c t : BitVec 64) : ((BKc k c t).s 0).getLsbD 3 = ((PR k).s 0).getLsbD 3 := by
  rw [bk_s0, rtS_bit _ 3 (by decide), if_neg (by omega), if_neg (by omega), if_neg (by omega), if_pos rfl, enS_bit _ _ 7 (by decide), if_neg (by omega), if_neg (by omega), if_pos rfl]
theorem bk_pr (k : Cp) (c t : BitVec 64) : PR (BKc k c t) = BKc k c t := RT_pr _
/-- The lines that count. -/
theorem m2184_all : ∀ i, i < 64 → (2184#64).getLsbD i = true → i = 11 ∨ i = 3 ∨ i = 7 := by decide
theorem some_ne (x y : BitVec 64) : (n64 (x &&& y &&& 2184#64) != 0) = (x.getLsbD 11 && y.getLsbD 11 || (x.getLsbD 3 && y.getLsbD 3 || x.getLsbD 7 && y.getLsbD 7)) := by
  cases h : (x.getLsbD 11 && y.getLsbD 11 || (x.getLsbD 3 && y.getLsbD 3 || x.getLsbD 7 && y.getLsbD 7)) with
  | false =>
    rw [Bool.or_eq_false_iff, Bool.or_eq_false_iff] at h
    obtain ⟨h1, h2, h3⟩ := h
    have e : x &&& y &&& 2184#64 = 0#64 := by
      apply BitVec.eq_of_getLsbD_eq
      intro i hi
      rw [BitVec.getLsbD_and, BitVec.getLsbD_and]
      cases hm : (2184#64).getLsbD i with
      | false => simp
      | true =>
        rcases m2184_all i hi hm with rfl | rfl | rfl
        · rw [h1]; rfl
        · rw [h2]; rfl
        · rw [h3]; rfl
    rw [e]; rfl
  | true =>
    have g : ∀ i, (2184#64).getLsbD i = true → (x.getLsbD i && y.getLsbD i) = true → (n64 (x &&& y &&& 2184#64) != 0) = true := fun i hm hi => by
      rw [bne_iff_ne]
      intro e
      have z := n64_zero e
      have q := congrArg (fun z : BitVec 64 => z.getLsbD i) z
      simp only [BitVec.getLsbD_and, hm, hi, BitVec.getLsbD_zero] at q
      cases q
    rw [Bool.or_eq_true, Bool.or_eq_true] at h
    rcases h with h | h | h
    · exact g 11 m2184.1 h
    · exact g 3 m2184.2.1 h
    · exact g 7 m2184.2.2 h
theorem fsB_some : ∀ a b c, (fsB a b c 0).2 = (a || (b || c)) := by decide
/-- In U, or with MIE: just those of mip and Mie. -/
theorem pd_some (K : Cp) (hK : PR K = K) (m : BitVec 64) (h : ¬ (K.md = 3 ∧ (K.s 0).getLsbD 3 = false)) : (PD K m).2 = (n64 (m &&& K.s 2 &&& 2184#64) != 0) := by
  rw [pd_bits, hK, if_neg h, some_ne]; exact fsB_some _ _ _
theorem pd_none (K : Cp) (hK : PR K = K) (m : BitVec 64) (h : K.md = 3 ∧ (K.s 0).getLsbD 3 = false) : PD K m = (0, false) := by rw [pd_bits, hK, if_pos h]
theorem pd_line (K : Cp) (hK : PR K = K) (m : BitVec 64) (n : Nat) (hn : n = 11 ∨ n = 3 ∨ n = 7) (h : PD K m = ((n : Int), true)) : (n64 ((m &&& K.s 2 &&& 2184#64) >>> n &&& 1#64) == 1) = true := by
  rw [bit_and, BitVec.getLsbD_and, BitVec.getLsbD_and]
  rw [pd_bits, hK] at h
  by_cases hc : K.md = 3 ∧ (K.s 0).getLsbD 3 = false
  · rw [if_pos hc] at h; exact absurd (congrArg Prod.snd h) (by simp)
  · rw [if_neg hc] at h
    rcases hn with rfl | rfl | rfl
    · rw [m2184.1, Bool.and_true]; exact fsB_is11 _ _ _ h
    · rw [m2184.2.1, Bool.and_true]; exact (fsB_is3 _ _ _ h).2
    · rw [m2184.2.2, Bool.and_true]; exact (fsB_is7 _ _ _ h).2.2
set_option maxRecDepth 100000 in
set_option maxHeartbeats 2000000 in
theorem tsil_u11 (hf : ∀ W, Calls Try.prog 11 #[] W fun e w' => e = .returned (.bool true) ∧ Below W.heap.size W w') (hpd : TPd) (hen : TEn) (hrt : TRt) (k : Cp) (cause tval mip : BitVec 64) (hmd : (BKc k cause tval).md = 0) (hP : PD (BKc k cause tval) mip = (11, true)) (hS : (n64 (mip &&& (BKc k cause tval).s 2 &&& 2184#64) != 0) = true) (hL : (n64 ((mip &&& (BKc k cause tval).s 2 &&& 2184#64) >>> 11 &&& 1#64) == 1) = true) (w : World) :
    Calls Try.prog 7 #[.agg (cpc k), .int .u64 (n64 cause), .int .u64 (n64 tval), .int .u64 (n64 mip)] w fun e w' => e = .returned (.bool true) ∧ Below w.heap.size w w' := by
  have hz := zero_cpu
  obtain ⟨W0, hW0, r0, b0, s0⟩ := start1 w (cpc k) 31
  clear s0
  have HFi : Hid (∀ W, Calls Try.prog 11 #[] W fun e w' => e = .returned (.bool true) ∧ Below W.heap.size W w') := hf
  have HEn : Hid (∀ W, Calls Try.prog 13 #[.agg (cpc k), .int .u64 (n64 cause), .int .u64 (n64 tval)] W fun e w' => e = .returned (.agg (cpc (ENc k cause tval))) ∧ Below W.heap.size W w') := hen k cause tval
  have HD1 : Hid (∀ W, Calls Try.prog 9 #[.agg (cpc (ENc k cause tval)), .int .u64 (n64 mip)] W fun e w' => e = .returned (.tuple #[.int .i64 0, .bool false]) ∧ Below W.heap.size W w') := fun W => by have h := hpd (ENc k cause tval) mip W; rw [pd_en] at h; exact h
  have HRt : Hid (∀ W, Calls Try.prog 14 #[.agg (cpc (ENc k cause tval))] W fun e w' => e = .returned (.tuple #[.agg (cpc (BKc k cause tval)), .bool true]) ∧ Below W.heap.size W w') := fun W => by have h := hrt (ENc k cause tval) W; rw [bk_ok] at h; exact h
  have HD2 : Hid (∀ W, Calls Try.prog 9 #[.agg (cpc (BKc k cause tval)), .int .u64 (n64 mip)] W fun e w' => e = .returned (.tuple #[.int .i64 11, .bool true]) ∧ Below W.heap.size W w') := fun W => by have h := hpd (BKc k cause tval) mip W; rw [hP] at h; exact h
  have q1 : bits .and .u64 (n64 mip) (n64 ((BKc k cause tval).s 2)) = n64 (mip &&& (BKc k cause tval).s 2) := n64_and _ _
  have q2 : bits .and .u64 (n64 (mip &&& (BKc k cause tval).s 2)) 2184 = n64 (mip &&& (BKc k cause tval).s 2 &&& 2184#64) := n64_and _ 2184#64
  have q3 : n64 (mip &&& (BKc k cause tval).s 2 &&& 2184#64) / (2048 : Int) = n64 ((mip &&& (BKc k cause tval).s 2 &&& 2184#64) >>> 11) := n64_shr _ 11
  have q4 : bits .and .u64 (n64 ((mip &&& (BKc k cause tval).s 2 &&& 2184#64) >>> 11)) 1 = n64 ((mip &&& (BKc k cause tval).s 2 &&& 2184#64) >>> 11 &&& 1#64) := n64_and _ 1#64
  generalize n64 ((mip &&& (BKc k cause tval).s 2 &&& 2184#64) >>> 11 &&& 1#64) = y4 at q4 hL
  generalize n64 ((mip &&& (BKc k cause tval).s 2 &&& 2184#64) >>> 11) = y3 at q3 q4
  generalize n64 (mip &&& (BKc k cause tval).s 2 &&& 2184#64) = y2 at q2 hS q3
  generalize n64 (mip &&& (BKc k cause tval).s 2) = y1 at q1 q2
  have HMD : Hid ((BKc k cause tval).md = 0) := hmd
  clear hmd hP hf hpd hen hrt
  generalize BKc k cause tval = O at HRt HD2 q1 HMD
  generalize ENc k cause tval = A at HEn HD1 HRt
  have S0 : Hid (Row W0 w.heap.size (cpc k) 31) := r0.out
  have BB : Hid (Below w.heap.size w W0) := b0.out
  clear r0 b0
  go_enter Try.func7, Try.ntmps7
  go_upto_region 1 with fail
  clear hW0
  go_upto_region 2 with (first | (refine wpList_load_row (by rfl) _ _ (by rfl) _ (by rfl) 31 _ (0, 0) _ S0.out Try.underlying31 (by rfl) (info_cpu _) ?_) | (go_at_call 13; refine (HEn.out _).mono ?_; rintro e y1w ⟨rfl, hb⟩; have By1w : Hid (Below W0.heap.size W0 y1w) := hb; clear hb) | (refine wpList_store_last (by rfl) _ _ _ (by rfl) (by rfl) _ _ _ (by rfl) (by rfl) (by rfl) (info_cpu _) (by rw [cpc_size, cpc_size]) (cpc_ones _) ?_))
  refine go_onP (motive := fun W => Code.wp _ _ _ _ W) (Q := fun W => Row W y1w.heap.size (cpc A) 31 ∧ Below w.heap.size w W) ⟨Row.new y1w (cpc A) 31, (BB.out.trans (By1w.out.mono BB.out.size)).alloc (Nat.le_trans BB.out.size By1w.out.size) _⟩ ?_
  clear S0 BB By1w HEn
  generalize y1w.heap.size = g1
  rintro V1 ⟨qS1, c0⟩
  have S1 : Hid (Row V1 g1 (cpc A) 31) := qS1
  have BB : Hid (Below w.heap.size w V1) := c0
  clear qS1 c0
  go_upto_region 3 with (first | (refine wpList_load_row (by rfl) _ _ (by rfl) _ (by rfl) 31 _ (0, 0) _ S1.out Try.underlying31 (by rfl) (info_cpu _) ?_) | (go_at_call 9; refine (HD1.out _).mono ?_; rintro e y2w ⟨rfl, hb⟩; have By2w : Hid (Below V1.heap.size V1 y2w) := hb; clear hb))
  refine go_onP (motive := fun W => Code.wp _ _ _ _ W) (Q := fun W => Row W g1 (cpc A) 31 ∧ Below w.heap.size w W) ⟨S1.out.cb By2w.out, (BB.out.trans (By2w.out.mono BB.out.size))⟩ ?_
  clear S1 BB By2w HD1
  rintro V2 ⟨qS1, c0⟩
  have S1 : Hid (Row V2 g1 (cpc A) 31) := qS1
  have BB : Hid (Below w.heap.size w V2) := c0
  clear qS1 c0
  go_upto_region 5 with (first | (go_at_call 11; refine (HFi.out _).mono ?_; rintro e y3w ⟨rfl, hb⟩; have By3w : Hid (Below V2.heap.size V2 y3w) := hb; clear hb))
  refine go_onP (motive := fun W => Code.wp _ _ _ _ W) (Q := fun W => Row W g1 (cpc A) 31 ∧ Below w.heap.size w W) ⟨S1.out.cb By3w.out, (BB.out.trans (By3w.out.mono BB.out.size))⟩ ?_
  clear S1 BB By3w HFi
  rintro V3 ⟨qS1, c0⟩
  have S1 : Hid (Row V3 g1 (cpc A) 31) := qS1
  have BB : Hid (Below w.heap.size w V3) := c0
  clear qS1 c0
  go_upto_region 6 with (first | (refine wpList_load_row (by rfl) _ _ (by rfl) _ (by rfl) 31 _ (0, 0) _ S1.out Try.underlying31 (by rfl) (info_cpu _) ?_) | (go_at_call 14; refine (HRt.out _).mono ?_; rintro e y4w ⟨rfl, hb⟩; have By4w : Hid (Below V3.heap.size V3 y4w) := hb; clear hb) | (refine wpList_store_last (by rfl) _ _ _ (by rfl) (by rfl) _ _ _ (by rfl) (by rfl) (by rfl) (info_cpu _) (by rw [cpc_size, cpc_size]) (cpc_ones _) ?_))
  refine go_onP (motive := fun W => Code.wp _ _ _ _ W) (Q := fun W => Row W y4w.heap.size (cpc O) 31 ∧ Below w.heap.size w W) ⟨Row.new y4w (cpc O) 31, (BB.out.trans (By4w.out.mono BB.out.size)).alloc (Nat.le_trans BB.out.size By4w.out.size) _⟩ ?_
  clear S1 BB By4w HRt
  generalize y4w.heap.size = g2
  rintro V4 ⟨qS2, c0⟩
  have S2 : Hid (Row V4 g2 (cpc O) 31) := qS2
  have BB : Hid (Below w.heap.size w V4) := c0
  clear qS2 c0
  go_upto_region 9 with (first | (refine wpList_load_row (by rfl) _ _ (by rfl) _ (by rfl) 31 _ (0, 0) _ S2.out Try.underlying31 (by rfl) (info_cpu _) ?_) | (go_at_call 9; refine (HD2.out _).mono ?_; rintro e y5w ⟨rfl, hb⟩; have By5w : Hid (Below V4.heap.size V4 y5w) := hb; clear hb))
  refine go_onP (motive := fun W => Code.wp _ _ _ _ W) (Q := fun W => Row W g2 (cpc O) 31 ∧ Below w.heap.size w W) ⟨S2.out.cb By5w.out, (BB.out.trans (By5w.out.mono BB.out.size))⟩ ?_
  clear S2 BB By5w HD2
  rintro V5 ⟨qS2, c0⟩
  have S2 : Hid (Row V5 g2 (cpc O) 31) := qS2
  have BB : Hid (Below w.heap.size w V5) := c0
  clear qS2 c0
  have K2 := S2.out.cls.s2
  have KM : V5.cell? ⟨g2, 33, none⟩ = some (.int .i64 0) := by rw [← HMD.out]; exact S2.out.cls.md
  go_wp2
  go_ret
  exact ⟨rfl, BB.out⟩
set_option maxRecDepth 100000 in
set_option maxHeartbeats 2000000 in
theorem tsil_u3 (hf : ∀ W, Calls Try.prog 11 #[] W fun e w' => e = .returned (.bool true) ∧ Below W.heap.size W w') (hpd : TPd) (hen : TEn) (hrt : TRt) (k : Cp) (cause tval mip : BitVec 64) (hmd : (BKc k cause tval).md = 0) (hP : PD (BKc k cause tval) mip = (3, true)) (hS : (n64 (mip &&& (BKc k cause tval).s 2 &&& 2184#64) != 0) = true) (hL : (n64 ((mip &&& (BKc k cause tval).s 2 &&& 2184#64) >>> 3 &&& 1#64) == 1) = true) (w : World) :
    Calls Try.prog 7 #[.agg (cpc k), .int .u64 (n64 cause), .int .u64 (n64 tval), .int .u64 (n64 mip)] w fun e w' => e = .returned (.bool true) ∧ Below w.heap.size w w' := by
  have hz := zero_cpu
  obtain ⟨W0, hW0, r0, b0, s0⟩ := start1 w (cpc k) 31
  clear s0
  have HFi : Hid (∀ W, Calls Try.prog 11 #[] W fun e w' => e = .returned (.bool true) ∧ Below W.heap.size W w') := hf
  have HEn : Hid (∀ W, Calls Try.prog 13 #[.agg (cpc k), .int .u64 (n64 cause), .int .u64 (n64 tval)] W fun e w' => e = .returned (.agg (cpc (ENc k cause tval))) ∧ Below W.heap.size W w') := hen k cause tval
  have HD1 : Hid (∀ W, Calls Try.prog 9 #[.agg (cpc (ENc k cause tval)), .int .u64 (n64 mip)] W fun e w' => e = .returned (.tuple #[.int .i64 0, .bool false]) ∧ Below W.heap.size W w') := fun W => by have h := hpd (ENc k cause tval) mip W; rw [pd_en] at h; exact h
  have HRt : Hid (∀ W, Calls Try.prog 14 #[.agg (cpc (ENc k cause tval))] W fun e w' => e = .returned (.tuple #[.agg (cpc (BKc k cause tval)), .bool true]) ∧ Below W.heap.size W w') := fun W => by have h := hrt (ENc k cause tval) W; rw [bk_ok] at h; exact h
  have HD2 : Hid (∀ W, Calls Try.prog 9 #[.agg (cpc (BKc k cause tval)), .int .u64 (n64 mip)] W fun e w' => e = .returned (.tuple #[.int .i64 3, .bool true]) ∧ Below W.heap.size W w') := fun W => by have h := hpd (BKc k cause tval) mip W; rw [hP] at h; exact h
  have q1 : bits .and .u64 (n64 mip) (n64 ((BKc k cause tval).s 2)) = n64 (mip &&& (BKc k cause tval).s 2) := n64_and _ _
  have q2 : bits .and .u64 (n64 (mip &&& (BKc k cause tval).s 2)) 2184 = n64 (mip &&& (BKc k cause tval).s 2 &&& 2184#64) := n64_and _ 2184#64
  have q3 : n64 (mip &&& (BKc k cause tval).s 2 &&& 2184#64) / (8 : Int) = n64 ((mip &&& (BKc k cause tval).s 2 &&& 2184#64) >>> 3) := n64_shr _ 3
  have q4 : bits .and .u64 (n64 ((mip &&& (BKc k cause tval).s 2 &&& 2184#64) >>> 3)) 1 = n64 ((mip &&& (BKc k cause tval).s 2 &&& 2184#64) >>> 3 &&& 1#64) := n64_and _ 1#64
  generalize n64 ((mip &&& (BKc k cause tval).s 2 &&& 2184#64) >>> 3 &&& 1#64) = y4 at q4 hL
  generalize n64 ((mip &&& (BKc k cause tval).s 2 &&& 2184#64) >>> 3) = y3 at q3 q4
  generalize n64 (mip &&& (BKc k cause tval).s 2 &&& 2184#64) = y2 at q2 hS q3
  generalize n64 (mip &&& (BKc k cause tval).s 2) = y1 at q1 q2
  have HMD : Hid ((BKc k cause tval).md = 0) := hmd
  clear hmd hP hf hpd hen hrt
  generalize BKc k cause tval = O at HRt HD2 q1 HMD
  generalize ENc k cause tval = A at HEn HD1 HRt
  have S0 : Hid (Row W0 w.heap.size (cpc k) 31) := r0.out
  have BB : Hid (Below w.heap.size w W0) := b0.out
  clear r0 b0
  go_enter Try.func7, Try.ntmps7
  go_upto_region 1 with fail
  clear hW0
  go_upto_region 2 with (first | (refine wpList_load_row (by rfl) _ _ (by rfl) _ (by rfl) 31 _ (0, 0) _ S0.out Try.underlying31 (by rfl) (info_cpu _) ?_) | (go_at_call 13; refine (HEn.out _).mono ?_; rintro e y1w ⟨rfl, hb⟩; have By1w : Hid (Below W0.heap.size W0 y1w) := hb; clear hb) | (refine wpList_store_last (by rfl) _ _ _ (by rfl) (by rfl) _ _ _ (by rfl) (by rfl) (by rfl) (info_cpu _) (by rw [cpc_size, cpc_size]) (cpc_ones _) ?_))
  refine go_onP (motive := fun W => Code.wp _ _ _ _ W) (Q := fun W => Row W y1w.heap.size (cpc A) 31 ∧ Below w.heap.size w W) ⟨Row.new y1w (cpc A) 31, (BB.out.trans (By1w.out.mono BB.out.size)).alloc (Nat.le_trans BB.out.size By1w.out.size) _⟩ ?_
  clear S0 BB By1w HEn
  generalize y1w.heap.size = g1
  rintro V1 ⟨qS1, c0⟩
  have S1 : Hid (Row V1 g1 (cpc A) 31) := qS1
  have BB : Hid (Below w.heap.size w V1) := c0
  clear qS1 c0
  go_upto_region 3 with (first | (refine wpList_load_row (by rfl) _ _ (by rfl) _ (by rfl) 31 _ (0, 0) _ S1.out Try.underlying31 (by rfl) (info_cpu _) ?_) | (go_at_call 9; refine (HD1.out _).mono ?_; rintro e y2w ⟨rfl, hb⟩; have By2w : Hid (Below V1.heap.size V1 y2w) := hb; clear hb))
  refine go_onP (motive := fun W => Code.wp _ _ _ _ W) (Q := fun W => Row W g1 (cpc A) 31 ∧ Below w.heap.size w W) ⟨S1.out.cb By2w.out, (BB.out.trans (By2w.out.mono BB.out.size))⟩ ?_
  clear S1 BB By2w HD1
  rintro V2 ⟨qS1, c0⟩
  have S1 : Hid (Row V2 g1 (cpc A) 31) := qS1
  have BB : Hid (Below w.heap.size w V2) := c0
  clear qS1 c0
  go_upto_region 5 with (first | (go_at_call 11; refine (HFi.out _).mono ?_; rintro e y3w ⟨rfl, hb⟩; have By3w : Hid (Below V2.heap.size V2 y3w) := hb; clear hb))
  refine go_onP (motive := fun W => Code.wp _ _ _ _ W) (Q := fun W => Row W g1 (cpc A) 31 ∧ Below w.heap.size w W) ⟨S1.out.cb By3w.out, (BB.out.trans (By3w.out.mono BB.out.size))⟩ ?_
  clear S1 BB By3w HFi
  rintro V3 ⟨qS1, c0⟩
  have S1 : Hid (Row V3 g1 (cpc A) 31) := qS1
  have BB : Hid (Below w.heap.size w V3) := c0
  clear qS1 c0
  go_upto_region 6 with (first | (refine wpList_load_row (by rfl) _ _ (by rfl) _ (by rfl) 31 _ (0, 0) _ S1.out Try.underlying31 (by rfl) (info_cpu _) ?_) | (go_at_call 14; refine (HRt.out _).mono ?_; rintro e y4w ⟨rfl, hb⟩; have By4w : Hid (Below V3.heap.size V3 y4w) := hb; clear hb) | (refine wpList_store_last (by rfl) _ _ _ (by rfl) (by rfl) _ _ _ (by rfl) (by rfl) (by rfl) (info_cpu _) (by rw [cpc_size, cpc_size]) (cpc_ones _) ?_))
  refine go_onP (motive := fun W => Code.wp _ _ _ _ W) (Q := fun W => Row W y4w.heap.size (cpc O) 31 ∧ Below w.heap.size w W) ⟨Row.new y4w (cpc O) 31, (BB.out.trans (By4w.out.mono BB.out.size)).alloc (Nat.le_trans BB.out.size By4w.out.size) _⟩ ?_
  clear S1 BB By4w HRt
  generalize y4w.heap.size = g2
  rintro V4 ⟨qS2, c0⟩
  have S2 : Hid (Row V4 g2 (cpc O) 31) := qS2
  have BB : Hid (Below w.heap.size w V4) := c0
  clear qS2 c0
  go_upto_region 9 with (first | (refine wpList_load_row (by rfl) _ _ (by rfl) _ (by rfl) 31 _ (0, 0) _ S2.out Try.underlying31 (by rfl) (info_cpu _) ?_) | (go_at_call 9; refine (HD2.out _).mono ?_; rintro e y5w ⟨rfl, hb⟩; have By5w : Hid (Below V4.heap.size V4 y5w) := hb; clear hb))
  refine go_onP (motive := fun W => Code.wp _ _ _ _ W) (Q := fun W => Row W g2 (cpc O) 31 ∧ Below w.heap.size w W) ⟨S2.out.cb By5w.out, (BB.out.trans (By5w.out.mono BB.out.size))⟩ ?_
  clear S2 BB By5w HD2
  rintro V5 ⟨qS2, c0⟩
  have S2 : Hid (Row V5 g2 (cpc O) 31) := qS2
  have BB : Hid (Below w.heap.size w V5) := c0
  clear qS2 c0
  have K2 := S2.out.cls.s2
  have KM : V5.cell? ⟨g2, 33, none⟩ = some (.int .i64 0) := by rw [← HMD.out]; exact S2.out.cls.md
  go_wp2
  go_ret
  exact ⟨rfl, BB.out⟩
set_option maxRecDepth 100000 in
set_option maxHeartbeats 2000000 in
theorem tsil_u7 (hf : ∀ W, Calls Try.prog 11 #[] W fun e w' => e = .returned (.bool true) ∧ Below W.heap.size W w') (hpd : TPd) (hen : TEn) (hrt : TRt) (k : Cp) (cause tval mip : BitVec 64) (hmd : (BKc k cause tval).md = 0) (hP : PD (BKc k cause tval) mip = (7, true)) (hS : (n64 (mip &&& (BKc k cause tval).s 2 &&& 2184#64) != 0) = true) (hL : (n64 ((mip &&& (BKc k cause tval).s 2 &&& 2184#64) >>> 7 &&& 1#64) == 1) = true) (w : World) :
    Calls Try.prog 7 #[.agg (cpc k), .int .u64 (n64 cause), .int .u64 (n64 tval), .int .u64 (n64 mip)] w fun e w' => e = .returned (.bool true) ∧ Below w.heap.size w w' := by
  have hz := zero_cpu
  obtain ⟨W0, hW0, r0, b0, s0⟩ := start1 w (cpc k) 31
  clear s0
  have HFi : Hid (∀ W, Calls Try.prog 11 #[] W fun e w' => e = .returned (.bool true) ∧ Below W.heap.size W w') := hf
  have HEn : Hid (∀ W, Calls Try.prog 13 #[.agg (cpc k), .int .u64 (n64 cause), .int .u64 (n64 tval)] W fun e w' => e = .returned (.agg (cpc (ENc k cause tval))) ∧ Below W.heap.size W w') := hen k cause tval
  have HD1 : Hid (∀ W, Calls Try.prog 9 #[.agg (cpc (ENc k cause tval)), .int .u64 (n64 mip)] W fun e w' => e = .returned (.tuple #[.int .i64 0, .bool false]) ∧ Below W.heap.size W w') := fun W => by have h := hpd (ENc k cause tval) mip W; rw [pd_en] at h; exact h
  have HRt : Hid (∀ W, Calls Try.prog 14 #[.agg (cpc (ENc k cause tval))] W fun e w' => e = .returned (.tuple #[.agg (cpc (BKc k cause tval)), .bool true]) ∧ Below W.heap.size W w') := fun W => by have h := hrt (ENc k cause tval) W; rw [bk_ok] at h; exact h
  have HD2 : Hid (∀ W, Calls Try.prog 9 #[.agg (cpc (BKc k cause tval)), .int .u64 (n64 mip)] W fun e w' => e = .returned (.tuple #[.int .i64 7, .bool true]) ∧ Below W.heap.size W w') := fun W => by have h := hpd (BKc k cause tval) mip W; rw [hP] at h; exact h
  have q1 : bits .and .u64 (n64 mip) (n64 ((BKc k cause tval).s 2)) = n64 (mip &&& (BKc k cause tval).s 2) := n64_and _ _
  have q2 : bits .and .u64 (n64 (mip &&& (BKc k cause tval).s 2)) 2184 = n64 (mip &&& (BKc k cause tval).s 2 &&& 2184#64) := n64_and _ 2184#64
  have q3 : n64 (mip &&& (BKc k cause tval).s 2 &&& 2184#64) / (128 : Int) = n64 ((mip &&& (BKc k cause tval).s 2 &&& 2184#64) >>> 7) := n64_shr _ 7
  have q4 : bits .and .u64 (n64 ((mip &&& (BKc k cause tval).s 2 &&& 2184#64) >>> 7)) 1 = n64 ((mip &&& (BKc k cause tval).s 2 &&& 2184#64) >>> 7 &&& 1#64) := n64_and _ 1#64
  generalize n64 ((mip &&& (BKc k cause tval).s 2 &&& 2184#64) >>> 7 &&& 1#64) = y4 at q4 hL
  generalize n64 ((mip &&& (BKc k cause tval).s 2 &&& 2184#64) >>> 7) = y3 at q3 q4
  generalize n64 (mip &&& (BKc k cause tval).s 2 &&& 2184#64) = y2 at q2 hS q3
  generalize n64 (mip &&& (BKc k cause tval).s 2) = y1 at q1 q2
  have HMD : Hid ((BKc k cause tval).md = 0) := hmd
  clear hmd hP hf hpd hen hrt
  generalize BKc k cause tval = O at HRt HD2 q1 HMD
  generalize ENc k cause tval = A at HEn HD1 HRt
  have S0 : Hid (Row W0 w.heap.size (cpc k) 31) := r0.out
  have BB : Hid (Below w.heap.size w W0) := b0.out
  clear r0 b0
  go_enter Try.func7, Try.ntmps7
  go_upto_region 1 with fail
  clear hW0
  go_upto_region 2 with (first | (refine wpList_load_row (by rfl) _ _ (by rfl) _ (by rfl) 31 _ (0, 0) _ S0.out Try.underlying31 (by rfl) (info_cpu _) ?_) | (go_at_call 13; refine (HEn.out _).mono ?_; rintro e y1w ⟨rfl, hb⟩; have By1w : Hid (Below W0.heap.size W0 y1w) := hb; clear hb) | (refine wpList_store_last (by rfl) _ _ _ (by rfl) (by rfl) _ _ _ (by rfl) (by rfl) (by rfl) (info_cpu _) (by rw [cpc_size, cpc_size]) (cpc_ones _) ?_))
  refine go_onP (motive := fun W => Code.wp _ _ _ _ W) (Q := fun W => Row W y1w.heap.size (cpc A) 31 ∧ Below w.heap.size w W) ⟨Row.new y1w (cpc A) 31, (BB.out.trans (By1w.out.mono BB.out.size)).alloc (Nat.le_trans BB.out.size By1w.out.size) _⟩ ?_
  clear S0 BB By1w HEn
  generalize y1w.heap.size = g1
  rintro V1 ⟨qS1, c0⟩
  have S1 : Hid (Row V1 g1 (cpc A) 31) := qS1
  have BB : Hid (Below w.heap.size w V1) := c0
  clear qS1 c0
  go_upto_region 3 with (first | (refine wpList_load_row (by rfl) _ _ (by rfl) _ (by rfl) 31 _ (0, 0) _ S1.out Try.underlying31 (by rfl) (info_cpu _) ?_) | (go_at_call 9; refine (HD1.out _).mono ?_; rintro e y2w ⟨rfl, hb⟩; have By2w : Hid (Below V1.heap.size V1 y2w) := hb; clear hb))
  refine go_onP (motive := fun W => Code.wp _ _ _ _ W) (Q := fun W => Row W g1 (cpc A) 31 ∧ Below w.heap.size w W) ⟨S1.out.cb By2w.out, (BB.out.trans (By2w.out.mono BB.out.size))⟩ ?_
  clear S1 BB By2w HD1
  rintro V2 ⟨qS1, c0⟩
  have S1 : Hid (Row V2 g1 (cpc A) 31) := qS1
  have BB : Hid (Below w.heap.size w V2) := c0
  clear qS1 c0
  go_upto_region 5 with (first | (go_at_call 11; refine (HFi.out _).mono ?_; rintro e y3w ⟨rfl, hb⟩; have By3w : Hid (Below V2.heap.size V2 y3w) := hb; clear hb))
  refine go_onP (motive := fun W => Code.wp _ _ _ _ W) (Q := fun W => Row W g1 (cpc A) 31 ∧ Below w.heap.size w W) ⟨S1.out.cb By3w.out, (BB.out.trans (By3w.out.mono BB.out.size))⟩ ?_
  clear S1 BB By3w HFi
  rintro V3 ⟨qS1, c0⟩
  have S1 : Hid (Row V3 g1 (cpc A) 31) := qS1
  have BB : Hid (Below w.heap.size w V3) := c0
  clear qS1 c0
  go_upto_region 6 with (first | (refine wpList_load_row (by rfl) _ _ (by rfl) _ (by rfl) 31 _ (0, 0) _ S1.out Try.underlying31 (by rfl) (info_cpu _) ?_) | (go_at_call 14; refine (HRt.out _).mono ?_; rintro e y4w ⟨rfl, hb⟩; have By4w : Hid (Below V3.heap.size V3 y4w) := hb; clear hb) | (refine wpList_store_last (by rfl) _ _ _ (by rfl) (by rfl) _ _ _ (by rfl) (by rfl) (by rfl) (info_cpu _) (by rw [cpc_size, cpc_size]) (cpc_ones _) ?_))
  refine go_onP (motive := fun W => Code.wp _ _ _ _ W) (Q := fun W => Row W y4w.heap.size (cpc O) 31 ∧ Below w.heap.size w W) ⟨Row.new y4w (cpc O) 31, (BB.out.trans (By4w.out.mono BB.out.size)).alloc (Nat.le_trans BB.out.size By4w.out.size) _⟩ ?_
  clear S1 BB By4w HRt
  generalize y4w.heap.size = g2
  rintro V4 ⟨qS2, c0⟩
  have S2 : Hid (Row V4 g2 (cpc O) 31) := qS2
  have BB : Hid (Below w.heap.size w V4) := c0
  clear qS2 c0
  go_upto_region 9 with (first | (refine wpList_load_row (by rfl) _ _ (by rfl) _ (by rfl) 31 _ (0, 0) _ S2.out Try.underlying31 (by rfl) (info_cpu _) ?_) | (go_at_call 9; refine (HD2.out _).mono ?_; rintro e y5w ⟨rfl, hb⟩; have By5w : Hid (Below V4.heap.size V4 y5w) := hb; clear hb))
  refine go_onP (motive := fun W => Code.wp _ _ _ _ W) (Q := fun W => Row W g2 (cpc O) 31 ∧ Below w.heap.size w W) ⟨S2.out.cb By5w.out, (BB.out.trans (By5w.out.mono BB.out.size))⟩ ?_
  clear S2 BB By5w HD2
  rintro V5 ⟨qS2, c0⟩
  have S2 : Hid (Row V5 g2 (cpc O) 31) := qS2
  have BB : Hid (Below w.heap.size w V5) := c0
  clear qS2 c0
  have K2 := S2.out.cls.s2
  have KM : V5.cell? ⟨g2, 33, none⟩ = some (.int .i64 0) := by rw [← HMD.out]; exact S2.out.cls.md
  go_wp2
  go_ret
  exact ⟨rfl, BB.out⟩
set_option maxRecDepth 100000 in
set_option maxHeartbeats 2000000 in
theorem tsil_u0 (hf : ∀ W, Calls Try.prog 11 #[] W fun e w' => e = .returned (.bool true) ∧ Below W.heap.size W w') (hpd : TPd) (hen : TEn) (hrt : TRt) (k : Cp) (cause tval mip : BitVec 64) (hmd : (BKc k cause tval).md = 0) (hP : PD (BKc k cause tval) mip = (0, false)) (hS : (n64 (mip &&& (BKc k cause tval).s 2 &&& 2184#64) != 0) = false) (w : World) :
    Calls Try.prog 7 #[.agg (cpc k), .int .u64 (n64 cause), .int .u64 (n64 tval), .int .u64 (n64 mip)] w fun e w' => e = .returned (.bool true) ∧ Below w.heap.size w w' := by
  have hz := zero_cpu
  obtain ⟨W0, hW0, r0, b0, s0⟩ := start1 w (cpc k) 31
  clear s0
  have HFi : Hid (∀ W, Calls Try.prog 11 #[] W fun e w' => e = .returned (.bool true) ∧ Below W.heap.size W w') := hf
  have HEn : Hid (∀ W, Calls Try.prog 13 #[.agg (cpc k), .int .u64 (n64 cause), .int .u64 (n64 tval)] W fun e w' => e = .returned (.agg (cpc (ENc k cause tval))) ∧ Below W.heap.size W w') := hen k cause tval
  have HD1 : Hid (∀ W, Calls Try.prog 9 #[.agg (cpc (ENc k cause tval)), .int .u64 (n64 mip)] W fun e w' => e = .returned (.tuple #[.int .i64 0, .bool false]) ∧ Below W.heap.size W w') := fun W => by have h := hpd (ENc k cause tval) mip W; rw [pd_en] at h; exact h
  have HRt : Hid (∀ W, Calls Try.prog 14 #[.agg (cpc (ENc k cause tval))] W fun e w' => e = .returned (.tuple #[.agg (cpc (BKc k cause tval)), .bool true]) ∧ Below W.heap.size W w') := fun W => by have h := hrt (ENc k cause tval) W; rw [bk_ok] at h; exact h
  have HD2 : Hid (∀ W, Calls Try.prog 9 #[.agg (cpc (BKc k cause tval)), .int .u64 (n64 mip)] W fun e w' => e = .returned (.tuple #[.int .i64 0, .bool false]) ∧ Below W.heap.size W w') := fun W => by have h := hpd (BKc k cause tval) mip W; rw [hP] at h; exact h
  have q1 : bits .and .u64 (n64 mip) (n64 ((BKc k cause tval).s 2)) = n64 (mip &&& (BKc k cause tval).s 2) := n64_and _ _
  have q2 : bits .and .u64 (n64 (mip &&& (BKc k cause tval).s 2)) 2184 = n64 (mip &&& (BKc k cause tval).s 2 &&& 2184#64) := n64_and _ 2184#64
  generalize n64 (mip &&& (BKc k cause tval).s 2 &&& 2184#64) = y2 at q2 hS
  generalize n64 (mip &&& (BKc k cause tval).s 2) = y1 at q1 q2
  have HMD : Hid ((BKc k cause tval).md = 0) := hmd
  clear hmd hP hf hpd hen hrt
  generalize BKc k cause tval = O at HRt HD2 q1 HMD
  generalize ENc k cause tval = A at HEn HD1 HRt
  have S0 : Hid (Row W0 w.heap.size (cpc k) 31) := r0.out
  have BB : Hid (Below w.heap.size w W0) := b0.out
  clear r0 b0
  go_enter Try.func7, Try.ntmps7
  go_upto_region 1 with fail
  clear hW0
  go_upto_region 2 with (first | (refine wpList_load_row (by rfl) _ _ (by rfl) _ (by rfl) 31 _ (0, 0) _ S0.out Try.underlying31 (by rfl) (info_cpu _) ?_) | (go_at_call 13; refine (HEn.out _).mono ?_; rintro e y1w ⟨rfl, hb⟩; have By1w : Hid (Below W0.heap.size W0 y1w) := hb; clear hb) | (refine wpList_store_last (by rfl) _ _ _ (by rfl) (by rfl) _ _ _ (by rfl) (by rfl) (by rfl) (info_cpu _) (by rw [cpc_size, cpc_size]) (cpc_ones _) ?_))
  refine go_onP (motive := fun W => Code.wp _ _ _ _ W) (Q := fun W => Row W y1w.heap.size (cpc A) 31 ∧ Below w.heap.size w W) ⟨Row.new y1w (cpc A) 31, (BB.out.trans (By1w.out.mono BB.out.size)).alloc (Nat.le_trans BB.out.size By1w.out.size) _⟩ ?_
  clear S0 BB By1w HEn
  generalize y1w.heap.size = g1
  rintro V1 ⟨qS1, c0⟩
  have S1 : Hid (Row V1 g1 (cpc A) 31) := qS1
  have BB : Hid (Below w.heap.size w V1) := c0
  clear qS1 c0
  go_upto_region 3 with (first | (refine wpList_load_row (by rfl) _ _ (by rfl) _ (by rfl) 31 _ (0, 0) _ S1.out Try.underlying31 (by rfl) (info_cpu _) ?_) | (go_at_call 9; refine (HD1.out _).mono ?_; rintro e y2w ⟨rfl, hb⟩; have By2w : Hid (Below V1.heap.size V1 y2w) := hb; clear hb))
  refine go_onP (motive := fun W => Code.wp _ _ _ _ W) (Q := fun W => Row W g1 (cpc A) 31 ∧ Below w.heap.size w W) ⟨S1.out.cb By2w.out, (BB.out.trans (By2w.out.mono BB.out.size))⟩ ?_
  clear S1 BB By2w HD1
  rintro V2 ⟨qS1, c0⟩
  have S1 : Hid (Row V2 g1 (cpc A) 31) := qS1
  have BB : Hid (Below w.heap.size w V2) := c0
  clear qS1 c0
  go_upto_region 5 with (first | (go_at_call 11; refine (HFi.out _).mono ?_; rintro e y3w ⟨rfl, hb⟩; have By3w : Hid (Below V2.heap.size V2 y3w) := hb; clear hb))
  refine go_onP (motive := fun W => Code.wp _ _ _ _ W) (Q := fun W => Row W g1 (cpc A) 31 ∧ Below w.heap.size w W) ⟨S1.out.cb By3w.out, (BB.out.trans (By3w.out.mono BB.out.size))⟩ ?_
  clear S1 BB By3w HFi
  rintro V3 ⟨qS1, c0⟩
  have S1 : Hid (Row V3 g1 (cpc A) 31) := qS1
  have BB : Hid (Below w.heap.size w V3) := c0
  clear qS1 c0
  go_upto_region 6 with (first | (refine wpList_load_row (by rfl) _ _ (by rfl) _ (by rfl) 31 _ (0, 0) _ S1.out Try.underlying31 (by rfl) (info_cpu _) ?_) | (go_at_call 14; refine (HRt.out _).mono ?_; rintro e y4w ⟨rfl, hb⟩; have By4w : Hid (Below V3.heap.size V3 y4w) := hb; clear hb) | (refine wpList_store_last (by rfl) _ _ _ (by rfl) (by rfl) _ _ _ (by rfl) (by rfl) (by rfl) (info_cpu _) (by rw [cpc_size, cpc_size]) (cpc_ones _) ?_))
  refine go_onP (motive := fun W => Code.wp _ _ _ _ W) (Q := fun W => Row W y4w.heap.size (cpc O) 31 ∧ Below w.heap.size w W) ⟨Row.new y4w (cpc O) 31, (BB.out.trans (By4w.out.mono BB.out.size)).alloc (Nat.le_trans BB.out.size By4w.out.size) _⟩ ?_
  clear S1 BB By4w HRt
  generalize y4w.heap.size = g2
  rintro V4 ⟨qS2, c0⟩
  have S2 : Hid (Row V4 g2 (cpc O) 31) := qS2
  have BB : Hid (Below w.heap.size w V4) := c0
  clear qS2 c0
  go_upto_region 9 with (first | (refine wpList_load_row (by rfl) _ _ (by rfl) _ (by rfl) 31 _ (0, 0) _ S2.out Try.underlying31 (by rfl) (info_cpu _) ?_) | (go_at_call 9; refine (HD2.out _).mono ?_; rintro e y5w ⟨rfl, hb⟩; have By5w : Hid (Below V4.heap.size V4 y5w) := hb; clear hb))
  refine go_onP (motive := fun W => Code.wp _ _ _ _ W) (Q := fun W => Row W g2 (cpc O) 31 ∧ Below w.heap.size w W) ⟨S2.out.cb By5w.out, (BB.out.trans (By5w.out.mono BB.out.size))⟩ ?_
  clear S2 BB By5w HD2
  rintro V5 ⟨qS2, c0⟩
  have S2 : Hid (Row V5 g2 (cpc O) 31) := qS2
  have BB : Hid (Below w.heap.size w V5) := c0
  clear qS2 c0
  have K2 := S2.out.cls.s2
  have KM : V5.cell? ⟨g2, 33, none⟩ = some (.int .i64 0) := by rw [← HMD.out]; exact S2.out.cls.md
  go_wp2
  go_ret
  exact ⟨rfl, BB.out⟩
set_option maxRecDepth 100000 in
set_option maxHeartbeats 2000000 in
theorem tsil_mt (hf : ∀ W, Calls Try.prog 11 #[] W fun e w' => e = .returned (.bool true) ∧ Below W.heap.size W w') (hpd : TPd) (hen : TEn) (hrt : TRt) (k : Cp) (cause tval mip : BitVec 64) (zn : Int) (hmd : (BKc k cause tval).md = 3) (hP : PD (BKc k cause tval) mip = (zn, true)) (hS : (n64 (mip &&& (BKc k cause tval).s 2 &&& 2184#64) != 0) = true) (h3 : ((BKc k cause tval).s 0).getLsbD 3 = true) (w : World) :
    Calls Try.prog 7 #[.agg (cpc k), .int .u64 (n64 cause), .int .u64 (n64 tval), .int .u64 (n64 mip)] w fun e w' => e = .returned (.bool true) ∧ Below w.heap.size w w' := by
  have hz := zero_cpu
  obtain ⟨W0, hW0, r0, b0, s0⟩ := start1 w (cpc k) 31
  clear s0
  have HFi : Hid (∀ W, Calls Try.prog 11 #[] W fun e w' => e = .returned (.bool true) ∧ Below W.heap.size W w') := hf
  have HEn : Hid (∀ W, Calls Try.prog 13 #[.agg (cpc k), .int .u64 (n64 cause), .int .u64 (n64 tval)] W fun e w' => e = .returned (.agg (cpc (ENc k cause tval))) ∧ Below W.heap.size W w') := hen k cause tval
  have HD1 : Hid (∀ W, Calls Try.prog 9 #[.agg (cpc (ENc k cause tval)), .int .u64 (n64 mip)] W fun e w' => e = .returned (.tuple #[.int .i64 0, .bool false]) ∧ Below W.heap.size W w') := fun W => by have h := hpd (ENc k cause tval) mip W; rw [pd_en] at h; exact h
  have HRt : Hid (∀ W, Calls Try.prog 14 #[.agg (cpc (ENc k cause tval))] W fun e w' => e = .returned (.tuple #[.agg (cpc (BKc k cause tval)), .bool true]) ∧ Below W.heap.size W w') := fun W => by have h := hrt (ENc k cause tval) W; rw [bk_ok] at h; exact h
  have HD2 : Hid (∀ W, Calls Try.prog 9 #[.agg (cpc (BKc k cause tval)), .int .u64 (n64 mip)] W fun e w' => e = .returned (.tuple #[.int .i64 zn, .bool true]) ∧ Below W.heap.size W w') := fun W => by have h := hpd (BKc k cause tval) mip W; rw [hP] at h; exact h
  have HSt : Hid (∀ W, Calls Try.prog 18 #[.agg (cpc (BKc k cause tval)), .int .u64 3] W fun e w' => e = .returned (.bool true) ∧ Below W.heap.size W w') := fun W => by have h := status_c (BKc k cause tval) 3 (by decide) W; rw [h3] at h; exact h
  have q1 : bits .and .u64 (n64 mip) (n64 ((BKc k cause tval).s 2)) = n64 (mip &&& (BKc k cause tval).s 2) := n64_and _ _
  have q2 : bits .and .u64 (n64 (mip &&& (BKc k cause tval).s 2)) 2184 = n64 (mip &&& (BKc k cause tval).s 2 &&& 2184#64) := n64_and _ 2184#64
  generalize n64 (mip &&& (BKc k cause tval).s 2 &&& 2184#64) = y2 at q2 hS
  generalize n64 (mip &&& (BKc k cause tval).s 2) = y1 at q1 q2
  have HMD : Hid ((BKc k cause tval).md = 3) := hmd
  clear hmd hP hf hpd hen hrt h3
  generalize BKc k cause tval = O at HRt HD2 q1 HMD HSt
  generalize ENc k cause tval = A at HEn HD1 HRt
  have S0 : Hid (Row W0 w.heap.size (cpc k) 31) := r0.out
  have BB : Hid (Below w.heap.size w W0) := b0.out
  clear r0 b0
  go_enter Try.func7, Try.ntmps7
  go_upto_region 1 with fail
  clear hW0
  go_upto_region 2 with (first | (refine wpList_load_row (by rfl) _ _ (by rfl) _ (by rfl) 31 _ (0, 0) _ S0.out Try.underlying31 (by rfl) (info_cpu _) ?_) | (go_at_call 13; refine (HEn.out _).mono ?_; rintro e y1w ⟨rfl, hb⟩; have By1w : Hid (Below W0.heap.size W0 y1w) := hb; clear hb) | (refine wpList_store_last (by rfl) _ _ _ (by rfl) (by rfl) _ _ _ (by rfl) (by rfl) (by rfl) (info_cpu _) (by rw [cpc_size, cpc_size]) (cpc_ones _) ?_))
  refine go_onP (motive := fun W => Code.wp _ _ _ _ W) (Q := fun W => Row W y1w.heap.size (cpc A) 31 ∧ Below w.heap.size w W) ⟨Row.new y1w (cpc A) 31, (BB.out.trans (By1w.out.mono BB.out.size)).alloc (Nat.le_trans BB.out.size By1w.out.size) _⟩ ?_
  clear S0 BB By1w HEn
  generalize y1w.heap.size = g1
  rintro V1 ⟨qS1, c0⟩
  have S1 : Hid (Row V1 g1 (cpc A) 31) := qS1
  have BB : Hid (Below w.heap.size w V1) := c0
  clear qS1 c0
  go_upto_region 3 with (first | (refine wpList_load_row (by rfl) _ _ (by rfl) _ (by rfl) 31 _ (0, 0) _ S1.out Try.underlying31 (by rfl) (info_cpu _) ?_) | (go_at_call 9; refine (HD1.out _).mono ?_; rintro e y2w ⟨rfl, hb⟩; have By2w : Hid (Below V1.heap.size V1 y2w) := hb; clear hb))
  refine go_onP (motive := fun W => Code.wp _ _ _ _ W) (Q := fun W => Row W g1 (cpc A) 31 ∧ Below w.heap.size w W) ⟨S1.out.cb By2w.out, (BB.out.trans (By2w.out.mono BB.out.size))⟩ ?_
  clear S1 BB By2w HD1
  rintro V2 ⟨qS1, c0⟩
  have S1 : Hid (Row V2 g1 (cpc A) 31) := qS1
  have BB : Hid (Below w.heap.size w V2) := c0
  clear qS1 c0
  go_upto_region 5 with (first | (go_at_call 11; refine (HFi.out _).mono ?_; rintro e y3w ⟨rfl, hb⟩; have By3w : Hid (Below V2.heap.size V2 y3w) := hb; clear hb))
  refine go_onP (motive := fun W => Code.wp _ _ _ _ W) (Q := fun W => Row W g1 (cpc A) 31 ∧ Below w.heap.size w W) ⟨S1.out.cb By3w.out, (BB.out.trans (By3w.out.mono BB.out.size))⟩ ?_
  clear S1 BB By3w HFi
  rintro V3 ⟨qS1, c0⟩
  have S1 : Hid (Row V3 g1 (cpc A) 31) := qS1
  have BB : Hid (Below w.heap.size w V3) := c0
  clear qS1 c0
  go_upto_region 6 with (first | (refine wpList_load_row (by rfl) _ _ (by rfl) _ (by rfl) 31 _ (0, 0) _ S1.out Try.underlying31 (by rfl) (info_cpu _) ?_) | (go_at_call 14; refine (HRt.out _).mono ?_; rintro e y4w ⟨rfl, hb⟩; have By4w : Hid (Below V3.heap.size V3 y4w) := hb; clear hb) | (refine wpList_store_last (by rfl) _ _ _ (by rfl) (by rfl) _ _ _ (by rfl) (by rfl) (by rfl) (info_cpu _) (by rw [cpc_size, cpc_size]) (cpc_ones _) ?_))
  refine go_onP (motive := fun W => Code.wp _ _ _ _ W) (Q := fun W => Row W y4w.heap.size (cpc O) 31 ∧ Below w.heap.size w W) ⟨Row.new y4w (cpc O) 31, (BB.out.trans (By4w.out.mono BB.out.size)).alloc (Nat.le_trans BB.out.size By4w.out.size) _⟩ ?_
  clear S1 BB By4w HRt
  generalize y4w.heap.size = g2
  rintro V4 ⟨qS2, c0⟩
  have S2 : Hid (Row V4 g2 (cpc O) 31) := qS2
  have BB : Hid (Below w.heap.size w V4) := c0
  clear qS2 c0
  go_upto_region 9 with (first | (refine wpList_load_row (by rfl) _ _ (by rfl) _ (by rfl) 31 _ (0, 0) _ S2.out Try.underlying31 (by rfl) (info_cpu _) ?_) | (go_at_call 9; refine (HD2.out _).mono ?_; rintro e y5w ⟨rfl, hb⟩; have By5w : Hid (Below V4.heap.size V4 y5w) := hb; clear hb))
  refine go_onP (motive := fun W => Code.wp _ _ _ _ W) (Q := fun W => Row W g2 (cpc O) 31 ∧ Below w.heap.size w W) ⟨S2.out.cb By5w.out, (BB.out.trans (By5w.out.mono BB.out.size))⟩ ?_
  clear S2 BB By5w HD2
  rintro V5 ⟨qS2, c0⟩
  have S2 : Hid (Row V5 g2 (cpc O) 31) := qS2
  have BB : Hid (Below w.heap.size w V5) := c0
  clear qS2 c0
  have K2 := S2.out.cls.s2
  have KM : V5.cell? ⟨g2, 33, none⟩ = some (.int .i64 3) := by rw [← HMD.out]; exact S2.out.cls.md
  go_upto_region 12 with fail
  go_wp2_with (first | (refine wpList_load_rowG (by rfl) _ _ (by rfl) _ (by rfl) 31 _ (0, 0) _ S2.out Try.underlying31 (by rfl) (info_cpu _) ?_) | (go_at_call 18; refine (HSt.out _).mono ?_; rintro e w8 ⟨rfl, hb⟩; have Bw8 : Hid (Below V5.heap.size V5 w8) := hb; clear hb))
  go_ret
  exact ⟨rfl, BB.out.trans (Bw8.out.mono BB.out.size)⟩
set_option maxRecDepth 100000 in
set_option maxHeartbeats 2000000 in
theorem tsil_mf (hf : ∀ W, Calls Try.prog 11 #[] W fun e w' => e = .returned (.bool true) ∧ Below W.heap.size W w') (hpd : TPd) (hen : TEn) (hrt : TRt) (k : Cp) (cause tval mip : BitVec 64) (zn : Int) (hmd : (BKc k cause tval).md = 3) (hP : PD (BKc k cause tval) mip = (zn, false)) (hS : (n64 (mip &&& (BKc k cause tval).s 2 &&& 2184#64) != 0) = false) (w : World) :
    Calls Try.prog 7 #[.agg (cpc k), .int .u64 (n64 cause), .int .u64 (n64 tval), .int .u64 (n64 mip)] w fun e w' => e = .returned (.bool true) ∧ Below w.heap.size w w' := by
  have hz := zero_cpu
  obtain ⟨W0, hW0, r0, b0, s0⟩ := start1 w (cpc k) 31
  clear s0
  have HFi : Hid (∀ W, Calls Try.prog 11 #[] W fun e w' => e = .returned (.bool true) ∧ Below W.heap.size W w') := hf
  have HEn : Hid (∀ W, Calls Try.prog 13 #[.agg (cpc k), .int .u64 (n64 cause), .int .u64 (n64 tval)] W fun e w' => e = .returned (.agg (cpc (ENc k cause tval))) ∧ Below W.heap.size W w') := hen k cause tval
  have HD1 : Hid (∀ W, Calls Try.prog 9 #[.agg (cpc (ENc k cause tval)), .int .u64 (n64 mip)] W fun e w' => e = .returned (.tuple #[.int .i64 0, .bool false]) ∧ Below W.heap.size W w') := fun W => by have h := hpd (ENc k cause tval) mip W; rw [pd_en] at h; exact h
  have HRt : Hid (∀ W, Calls Try.prog 14 #[.agg (cpc (ENc k cause tval))] W fun e w' => e = .returned (.tuple #[.agg (cpc (BKc k cause tval)), .bool true]) ∧ Below W.heap.size W w') := fun W => by have h := hrt (ENc k cause tval) W; rw [bk_ok] at h; exact h
  have HD2 : Hid (∀ W, Calls Try.prog 9 #[.agg (cpc (BKc k cause tval)), .int .u64 (n64 mip)] W fun e w' => e = .returned (.tuple #[.int .i64 zn, .bool false]) ∧ Below W.heap.size W w') := fun W => by have h := hpd (BKc k cause tval) mip W; rw [hP] at h; exact h
  have q1 : bits .and .u64 (n64 mip) (n64 ((BKc k cause tval).s 2)) = n64 (mip &&& (BKc k cause tval).s 2) := n64_and _ _
  have q2 : bits .and .u64 (n64 (mip &&& (BKc k cause tval).s 2)) 2184 = n64 (mip &&& (BKc k cause tval).s 2 &&& 2184#64) := n64_and _ 2184#64
  generalize n64 (mip &&& (BKc k cause tval).s 2 &&& 2184#64) = y2 at q2 hS
  generalize n64 (mip &&& (BKc k cause tval).s 2) = y1 at q1 q2
  have HMD : Hid ((BKc k cause tval).md = 3) := hmd
  clear hmd hP hf hpd hen hrt
  generalize BKc k cause tval = O at HRt HD2 q1 HMD
  generalize ENc k cause tval = A at HEn HD1 HRt
  have S0 : Hid (Row W0 w.heap.size (cpc k) 31) := r0.out
  have BB : Hid (Below w.heap.size w W0) := b0.out
  clear r0 b0
  go_enter Try.func7, Try.ntmps7
  go_upto_region 1 with fail
  clear hW0
  go_upto_region 2 with (first | (refine wpList_load_row (by rfl) _ _ (by rfl) _ (by rfl) 31 _ (0, 0) _ S0.out Try.underlying31 (by rfl) (info_cpu _) ?_) | (go_at_call 13; refine (HEn.out _).mono ?_; rintro e y1w ⟨rfl, hb⟩; have By1w : Hid (Below W0.heap.size W0 y1w) := hb; clear hb) | (refine wpList_store_last (by rfl) _ _ _ (by rfl) (by rfl) _ _ _ (by rfl) (by rfl) (by rfl) (info_cpu _) (by rw [cpc_size, cpc_size]) (cpc_ones _) ?_))
  refine go_onP (motive := fun W => Code.wp _ _ _ _ W) (Q := fun W => Row W y1w.heap.size (cpc A) 31 ∧ Below w.heap.size w W) ⟨Row.new y1w (cpc A) 31, (BB.out.trans (By1w.out.mono BB.out.size)).alloc (Nat.le_trans BB.out.size By1w.out.size) _⟩ ?_
  clear S0 BB By1w HEn
  generalize y1w.heap.size = g1
  rintro V1 ⟨qS1, c0⟩
  have S1 : Hid (Row V1 g1 (cpc A) 31) := qS1
  have BB : Hid (Below w.heap.size w V1) := c0
  clear qS1 c0
  go_upto_region 3 with (first | (refine wpList_load_row (by rfl) _ _ (by rfl) _ (by rfl) 31 _ (0, 0) _ S1.out Try.underlying31 (by rfl) (info_cpu _) ?_) | (go_at_call 9; refine (HD1.out _).mono ?_; rintro e y2w ⟨rfl, hb⟩; have By2w : Hid (Below V1.heap.size V1 y2w) := hb; clear hb))
  refine go_onP (motive := fun W => Code.wp _ _ _ _ W) (Q := fun W => Row W g1 (cpc A) 31 ∧ Below w.heap.size w W) ⟨S1.out.cb By2w.out, (BB.out.trans (By2w.out.mono BB.out.size))⟩ ?_
  clear S1 BB By2w HD1
  rintro V2 ⟨qS1, c0⟩
  have S1 : Hid (Row V2 g1 (cpc A) 31) := qS1
  have BB : Hid (Below w.heap.size w V2) := c0
  clear qS1 c0
  go_upto_region 5 with (first | (go_at_call 11; refine (HFi.out _).mono ?_; rintro e y3w ⟨rfl, hb⟩; have By3w : Hid (Below V2.heap.size V2 y3w) := hb; clear hb))
  refine go_onP (motive := fun W => Code.wp _ _ _ _ W) (Q := fun W => Row W g1 (cpc A) 31 ∧ Below w.heap.size w W) ⟨S1.out.cb By3w.out, (BB.out.trans (By3w.out.mono BB.out.size))⟩ ?_
  clear S1 BB By3w HFi
  rintro V3 ⟨qS1, c0⟩
  have S1 : Hid (Row V3 g1 (cpc A) 31) := qS1
  have BB : Hid (Below w.heap.size w V3) := c0
  clear qS1 c0
  go_upto_region 6 with (first | (refine wpList_load_row (by rfl) _ _ (by rfl) _ (by rfl) 31 _ (0, 0) _ S1.out Try.underlying31 (by rfl) (info_cpu _) ?_) | (go_at_call 14; refine (HRt.out _).mono ?_; rintro e y4w ⟨rfl, hb⟩; have By4w : Hid (Below V3.heap.size V3 y4w) := hb; clear hb) | (refine wpList_store_last (by rfl) _ _ _ (by rfl) (by rfl) _ _ _ (by rfl) (by rfl) (by rfl) (info_cpu _) (by rw [cpc_size, cpc_size]) (cpc_ones _) ?_))
  refine go_onP (motive := fun W => Code.wp _ _ _ _ W) (Q := fun W => Row W y4w.heap.size (cpc O) 31 ∧ Below w.heap.size w W) ⟨Row.new y4w (cpc O) 31, (BB.out.trans (By4w.out.mono BB.out.size)).alloc (Nat.le_trans BB.out.size By4w.out.size) _⟩ ?_
  clear S1 BB By4w HRt
  generalize y4w.heap.size = g2
  rintro V4 ⟨qS2, c0⟩
  have S2 : Hid (Row V4 g2 (cpc O) 31) := qS2
  have BB : Hid (Below w.heap.size w V4) := c0
  clear qS2 c0
  go_upto_region 9 with (first | (refine wpList_load_row (by rfl) _ _ (by rfl) _ (by rfl) 31 _ (0, 0) _ S2.out Try.underlying31 (by rfl) (info_cpu _) ?_) | (go_at_call 9; refine (HD2.out _).mono ?_; rintro e y5w ⟨rfl, hb⟩; have By5w : Hid (Below V4.heap.size V4 y5w) := hb; clear hb))
  refine go_onP (motive := fun W => Code.wp _ _ _ _ W) (Q := fun W => Row W g2 (cpc O) 31 ∧ Below w.heap.size w W) ⟨S2.out.cb By5w.out, (BB.out.trans (By5w.out.mono BB.out.size))⟩ ?_
  clear S2 BB By5w HD2
  rintro V5 ⟨qS2, c0⟩
  have S2 : Hid (Row V5 g2 (cpc O) 31) := qS2
  have BB : Hid (Below w.heap.size w V5) := c0
  clear qS2 c0
  have K2 := S2.out.cls.s2
  have KM : V5.cell? ⟨g2, 33, none⟩ = some (.int .i64 3) := by rw [← HMD.out]; exact S2.out.cls.md
  go_wp2
  go_ret
  exact ⟨rfl, BB.out⟩
set_option maxRecDepth 100000 in
set_option maxHeartbeats 2000000 in
theorem tsil_mn (hf : ∀ W, Calls Try.prog 11 #[] W fun e w' => e = .returned (.bool true) ∧ Below W.heap.size W w') (hpd : TPd) (hen : TEn) (hrt : TRt) (k : Cp) (cause tval mip : BitVec 64) (hmd : (BKc k cause tval).md = 3) (hP : PD (BKc k cause tval) mip = (0, false)) (hS : (n64 (mip &&& (BKc k cause tval).s 2 &&& 2184#64) != 0) = true) (h3 : ((BKc k cause tval).s 0).getLsbD 3 = false) (w : World) :
    Calls Try.prog 7 #[.agg (cpc k), .int .u64 (n64 cause), .int .u64 (n64 tval), .int .u64 (n64 mip)] w fun e w' => e = .returned (.bool true) ∧ Below w.heap.size w w' := by
  have hz := zero_cpu
  obtain ⟨W0, hW0, r0, b0, s0⟩ := start1 w (cpc k) 31
  clear s0
  have HFi : Hid (∀ W, Calls Try.prog 11 #[] W fun e w' => e = .returned (.bool true) ∧ Below W.heap.size W w') := hf
  have HEn : Hid (∀ W, Calls Try.prog 13 #[.agg (cpc k), .int .u64 (n64 cause), .int .u64 (n64 tval)] W fun e w' => e = .returned (.agg (cpc (ENc k cause tval))) ∧ Below W.heap.size W w') := hen k cause tval
  have HD1 : Hid (∀ W, Calls Try.prog 9 #[.agg (cpc (ENc k cause tval)), .int .u64 (n64 mip)] W fun e w' => e = .returned (.tuple #[.int .i64 0, .bool false]) ∧ Below W.heap.size W w') := fun W => by have h := hpd (ENc k cause tval) mip W; rw [pd_en] at h; exact h
  have HRt : Hid (∀ W, Calls Try.prog 14 #[.agg (cpc (ENc k cause tval))] W fun e w' => e = .returned (.tuple #[.agg (cpc (BKc k cause tval)), .bool true]) ∧ Below W.heap.size W w') := fun W => by have h := hrt (ENc k cause tval) W; rw [bk_ok] at h; exact h
  have HD2 : Hid (∀ W, Calls Try.prog 9 #[.agg (cpc (BKc k cause tval)), .int .u64 (n64 mip)] W fun e w' => e = .returned (.tuple #[.int .i64 0, .bool false]) ∧ Below W.heap.size W w') := fun W => by have h := hpd (BKc k cause tval) mip W; rw [hP] at h; exact h
  have HSt : Hid (∀ W, Calls Try.prog 18 #[.agg (cpc (BKc k cause tval)), .int .u64 3] W fun e w' => e = .returned (.bool false) ∧ Below W.heap.size W w') := fun W => by have h := status_c (BKc k cause tval) 3 (by decide) W; rw [h3] at h; exact h
  have q1 : bits .and .u64 (n64 mip) (n64 ((BKc k cause tval).s 2)) = n64 (mip &&& (BKc k cause tval).s 2) := n64_and _ _
  have q2 : bits .and .u64 (n64 (mip &&& (BKc k cause tval).s 2)) 2184 = n64 (mip &&& (BKc k cause tval).s 2 &&& 2184#64) := n64_and _ 2184#64
  generalize n64 (mip &&& (BKc k cause tval).s 2 &&& 2184#64) = y2 at q2 hS
  generalize n64 (mip &&& (BKc k cause tval).s 2) = y1 at q1 q2
  have HMD : Hid ((BKc k cause tval).md = 3) := hmd
  clear hmd hP hf hpd hen hrt h3
  generalize BKc k cause tval = O at HRt HD2 q1 HMD HSt
  generalize ENc k cause tval = A at HEn HD1 HRt
  have S0 : Hid (Row W0 w.heap.size (cpc k) 31) := r0.out
  have BB : Hid (Below w.heap.size w W0) := b0.out
  clear r0 b0
  go_enter Try.func7, Try.ntmps7
  go_upto_region 1 with fail
  clear hW0
  go_upto_region 2 with (first | (refine wpList_load_row (by rfl) _ _ (by rfl) _ (by rfl) 31 _ (0, 0) _ S0.out Try.underlying31 (by rfl) (info_cpu _) ?_) | (go_at_call 13; refine (HEn.out _).mono ?_; rintro e y1w ⟨rfl, hb⟩; have By1w : Hid (Below W0.heap.size W0 y1w) := hb; clear hb) | (refine wpList_store_last (by rfl) _ _ _ (by rfl) (by rfl) _ _ _ (by rfl) (by rfl) (by rfl) (info_cpu _) (by rw [cpc_size, cpc_size]) (cpc_ones _) ?_))
  refine go_onP (motive := fun W => Code.wp _ _ _ _ W) (Q := fun W => Row W y1w.heap.size (cpc A) 31 ∧ Below w.heap.size w W) ⟨Row.new y1w (cpc A) 31, (BB.out.trans (By1w.out.mono BB.out.size)).alloc (Nat.le_trans BB.out.size By1w.out.size) _⟩ ?_
  clear S0 BB By1w HEn
  generalize y1w.heap.size = g1
  rintro V1 ⟨qS1, c0⟩
  have S1 : Hid (Row V1 g1 (cpc A) 31) := qS1
  have BB : Hid (Below w.heap.size w V1) := c0
  clear qS1 c0
  go_upto_region 3 with (first | (refine wpList_load_row (by rfl) _ _ (by rfl) _ (by rfl) 31 _ (0, 0) _ S1.out Try.underlying31 (by rfl) (info_cpu _) ?_) | (go_at_call 9; refine (HD1.out _).mono ?_; rintro e y2w ⟨rfl, hb⟩; have By2w : Hid (Below V1.heap.size V1 y2w) := hb; clear hb))
  refine go_onP (motive := fun W => Code.wp _ _ _ _ W) (Q := fun W => Row W g1 (cpc A) 31 ∧ Below w.heap.size w W) ⟨S1.out.cb By2w.out, (BB.out.trans (By2w.out.mono BB.out.size))⟩ ?_
  clear S1 BB By2w HD1
  rintro V2 ⟨qS1, c0⟩
  have S1 : Hid (Row V2 g1 (cpc A) 31) := qS1
  have BB : Hid (Below w.heap.size w V2) := c0
  clear qS1 c0
  go_upto_region 5 with (first | (go_at_call 11; refine (HFi.out _).mono ?_; rintro e y3w ⟨rfl, hb⟩; have By3w : Hid (Below V2.heap.size V2 y3w) := hb; clear hb))
  refine go_onP (motive := fun W => Code.wp _ _ _ _ W) (Q := fun W => Row W g1 (cpc A) 31 ∧ Below w.heap.size w W) ⟨S1.out.cb By3w.out, (BB.out.trans (By3w.out.mono BB.out.size))⟩ ?_
  clear S1 BB By3w HFi
  rintro V3 ⟨qS1, c0⟩
  have S1 : Hid (Row V3 g1 (cpc A) 31) := qS1
  have BB : Hid (Below w.heap.size w V3) := c0
  clear qS1 c0
  go_upto_region 6 with (first | (refine wpList_load_row (by rfl) _ _ (by rfl) _ (by rfl) 31 _ (0, 0) _ S1.out Try.underlying31 (by rfl) (info_cpu _) ?_) | (go_at_call 14; refine (HRt.out _).mono ?_; rintro e y4w ⟨rfl, hb⟩; have By4w : Hid (Below V3.heap.size V3 y4w) := hb; clear hb) | (refine wpList_store_last (by rfl) _ _ _ (by rfl) (by rfl) _ _ _ (by rfl) (by rfl) (by rfl) (info_cpu _) (by rw [cpc_size, cpc_size]) (cpc_ones _) ?_))
  refine go_onP (motive := fun W => Code.wp _ _ _ _ W) (Q := fun W => Row W y4w.heap.size (cpc O) 31 ∧ Below w.heap.size w W) ⟨Row.new y4w (cpc O) 31, (BB.out.trans (By4w.out.mono BB.out.size)).alloc (Nat.le_trans BB.out.size By4w.out.size) _⟩ ?_
  clear S1 BB By4w HRt
  generalize y4w.heap.size = g2
  rintro V4 ⟨qS2, c0⟩
  have S2 : Hid (Row V4 g2 (cpc O) 31) := qS2
  have BB : Hid (Below w.heap.size w V4) := c0
  clear qS2 c0
  go_upto_region 9 with (first | (refine wpList_load_row (by rfl) _ _ (by rfl) _ (by rfl) 31 _ (0, 0) _ S2.out Try.underlying31 (by rfl) (info_cpu _) ?_) | (go_at_call 9; refine (HD2.out _).mono ?_; rintro e y5w ⟨rfl, hb⟩; have By5w : Hid (Below V4.heap.size V4 y5w) := hb; clear hb))
  refine go_onP (motive := fun W => Code.wp _ _ _ _ W) (Q := fun W => Row W g2 (cpc O) 31 ∧ Below w.heap.size w W) ⟨S2.out.cb By5w.out, (BB.out.trans (By5w.out.mono BB.out.size))⟩ ?_
  clear S2 BB By5w HD2
  rintro V5 ⟨qS2, c0⟩
  have S2 : Hid (Row V5 g2 (cpc O) 31) := qS2
  have BB : Hid (Below w.heap.size w V5) := c0
  clear qS2 c0
  have K2 := S2.out.cls.s2
  have KM : V5.cell? ⟨g2, 33, none⟩ = some (.int .i64 3) := by rw [← HMD.out]; exact S2.out.cls.md
  go_upto_region 12 with fail
  go_wp2_with (first | (refine wpList_load_rowG (by rfl) _ _ (by rfl) _ (by rfl) 31 _ (0, 0) _ S2.out Try.underlying31 (by rfl) (info_cpu _) ?_) | (go_at_call 18; refine (HSt.out _).mono ?_; rintro e w8 ⟨rfl, hb⟩; have Bw8 : Hid (Below V5.heap.size V5 w8) := hb; clear hb))
  go_ret
  exact ⟨rfl, BB.out.trans (Bw8.out.mono BB.out.size)⟩
theorem tsilent_walk (hp : CPr) (hpd : TPd) (hen : TEn) (hrt : TRt) (hwt : TWt) (hef : TEf) (k : Cp) (cause tval mip : BitVec 64) (w : World) :
    Calls Try.prog 7 #[.agg (cpc k), .int .u64 (n64 cause), .int .u64 (n64 tval), .int .u64 (n64 mip)] w fun e w' => e = .returned (.bool true) ∧ Below w.heap.size w w' := by
  have hf := fun W => first_c hpd hen hrt hwt hef W
  have hK := bk_pr k cause tval
  have hm := bk_md k cause tval
  rcases PR_md k with h | h
  · rw [h] at hm
    have hn : ¬ ((BKc k cause tval).md = 3 ∧ ((BKc k cause tval).s 0).getLsbD 3 = false) := by rw [hm]; simp
    have hs := pd_some _ hK mip hn
    rcases pd_is (BKc k cause tval) mip with g | g | g | g
    · rw [g] at hs
      exact tsil_u11 hf hpd hen hrt k cause tval mip hm g hs.symm (pd_line _ hK mip 11 (Or.inl rfl) g) w
    · rw [g] at hs
      exact tsil_u3 hf hpd hen hrt k cause tval mip hm g hs.symm (pd_line _ hK mip 3 (Or.inr (Or.inl rfl)) g) w
    · rw [g] at hs
      exact tsil_u7 hf hpd hen hrt k cause tval mip hm g hs.symm (pd_line _ hK mip 7 (Or.inr (Or.inr rfl)) g) w
    · rw [g] at hs
      exact tsil_u0 hf hpd hen hrt k cause tval mip hm g hs.symm w
  · rw [h] at hm
    cases h3 : ((BKc k cause tval).s 0).getLsbD 3 with
    | true =>
      have hs := pd_some _ hK mip (by rw [h3]; simp)
      cases hq : (PD (BKc k cause tval) mip).2 with
      | true =>
        rw [hq] at hs
        exact tsil_mt hf hpd hen hrt k cause tval mip (PD (BKc k cause tval) mip).1 hm (by rw [← hq]) hs.symm h3 w
      | false =>
        rw [hq] at hs
        exact tsil_mf hf hpd hen hrt k cause tval mip (PD (BKc k cause tval) mip).1 hm (by rw [← hq]) hs.symm w
    | false =>
      have g := pd_none _ hK mip ⟨hm, h3⟩
      cases hs : (n64 (mip &&& (BKc k cause tval).s 2 &&& 2184#64) != 0) with
      | true => exact tsil_mn hf hpd hen hrt k cause tval mip hm g hs h3 w
      | false => exact tsil_mf hf hpd hen hrt k cause tval mip 0 hm g hs w
end Go.Proofs.Ytnejdfkmnblfeaa
