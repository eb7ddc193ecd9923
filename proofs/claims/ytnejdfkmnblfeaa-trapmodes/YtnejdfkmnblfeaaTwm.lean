/-
  TrapModes: its walk.
-/
import Derived.Test.YtnejdfkmnblfeaaTfi
import Derived.Test.YtnejdfkmnblfeaaCsa
namespace Go.Proofs.Ytnejdfkmnblfeaa
set_option linter.unusedVariables false
open Go.ChangeShapes Go.WideShapes Go.ChangeAt Go.RowKit Go.Deep
theorem pr_st (k : Cp) : ∃ u, (PR k).s 0 = stB u := ⟨k.s 0, rfl⟩
theorem mq_not (x : BitVec 64) : ¬ mq (stB x) := by
  have e : stB x >>> 11 &&& 3#64 = (stB x &&& 2234504#64) >>> 11 &&& 3#64 := (mask6144 _).symm
  unfold mq
  rw [e, stB_and]
  by_cases h : mq (x &&& 2234504#64)
  · rw [if_pos h]
    exact mq_no x
  · rw [if_neg h]
    exact h
/-- MPP of a Cpu that is proper, looked at whole. -/
theorem mpp_0 (k : Cp) : (n64 ((PR k).s 0 >>> 11 &&& 3#64) == 0) = !((PR k).s 0).getLsbD 11 := by
  obtain ⟨u, hu⟩ := pr_st k
  have h := mq_not u
  rw [← hu] at h
  generalize (PR k).s 0 = v at h
  have hb : v.getLsbD 11 = (v >>> 11 &&& 3#64).getLsbD 0 := by
    rw [BitVec.getLsbD_and, BitVec.getLsbD_ushiftRight]; simp
  rw [hb]
  unfold mq at h
  rcases four (and3_le (v >>> 11)) with e | e | e | e
  · rw [e]; decide
  · exact absurd (Or.inl e) h
  · exact absurd (Or.inr e) h
  · rw [e]; decide
theorem rtS_17 (v : BitVec 64) (h : mpB v = 0) : (rtS v).getLsbD 17 = false := by
  unfold rtS
  rw [if_pos h, sB_bit _ 17 17 (by decide) (by decide), if_pos rfl]
set_option maxRecDepth 100000 in
set_option maxHeartbeats 2000000 in
theorem tmodes_u (hp : CPr) (hf : ∀ W, Calls Try.prog 11 #[] W fun e w' => e = .returned (.bool true) ∧ Below W.heap.size W w') (hrt : TRt) (hef : TEf) (k : Cp) (hmd : (PR k).md = 0)  (w : World) :
    Calls Try.prog 8 #[.agg (cpc k)] w fun e w' => e = .returned (.bool true) ∧ Below w.heap.size w w' := by
  have hz := zero_cpu
  obtain ⟨W0, hW0, r0, b0, s0⟩ := start1 w (cpc k) 31
  clear s0
  have HFi : Hid (∀ W, Calls Try.prog 11 #[] W fun e w' => e = .returned (.bool true) ∧ Below W.heap.size W w') := hf
  have HPr : Hid (∀ W, Calls Try.prog 12 #[.agg (cpc k)] W fun e w' => e = .returned (.agg (cpc (PR k))) ∧ Below W.heap.size W w') := hp k
  have hok : RTk k = false := by unfold RTk; rw [hmd]; rfl
  have HRt : Hid (∀ W, Calls Try.prog 14 #[.agg (cpc k)] W fun e w' => e = .returned (.tuple #[.agg (cpc (RTc k)), .bool false]) ∧ Below W.heap.size W w') := fun W => by have h := hrt k W; rw [hok] at h; exact h
  have hev : EF k = 0 := by unfold EF; rw [if_neg (by rw [hmd]; simp), hmd]
  have HEf : Hid (∀ W, Calls Try.prog 17 #[.agg (cpc k)] W fun e w' => e = .returned (.int .i64 0) ∧ Below W.heap.size W w') := fun W => by have h := hef k W; rw [hev] at h; exact h
  have HO : Hid (RTc k = PR k) := by unfold Hid RTc; rw [if_neg (by rw [hmd]; decide)]
  rw [HO.out] at HRt
  have heq : ∀ W, (Op.equalIn 10000 31 (.agg (cpc (PR k))) (.agg (cpc (PR k)))).run Try.prog W = .ok true W := fun W => eq_cpu W _
  have HMD : Hid ((PR k).md = 0) := hmd
  clear hok hev hmd hp hf hrt hef HO
  generalize PR k = K at HPr HRt heq HMD
  have R0 : Hid (Row W0 w.heap.size (cpc k) 31) := r0.out
  have BB : Hid (Below w.heap.size w W0) := b0.out
  clear r0 b0
  go_enter Try.func8, Try.ntmps8
  go_upto_region 1 with fail
  clear hW0
  go_upto_region 3 with (go_at_call 11; refine (HFi.out _).mono ?_; rintro e w1 ⟨rfl, hb⟩; have Bw1 : Hid (Below W0.heap.size W0 w1) := hb; clear hb)
  have R1 : Hid (Row w1 w.heap.size (cpc k) 31) := R0.out.cb Bw1.out
  go_upto_region 4 with (first | (refine wpList_load_row (by rfl) _ _ (by rfl) _ (by rfl) 31 _ (0, 0) _ R1.out Try.underlying31 (by rfl) (info_cpu _) ?_) | (go_at_call 12; refine (HPr.out _).mono ?_; rintro e w2 ⟨rfl, hb⟩; have Bw2 : Hid (Below w1.heap.size w1 w2) := hb; clear hb) | (refine wpList_store_last (by rfl) _ _ _ (by rfl) (by rfl) _ _ _ (by rfl) (by rfl) (by rfl) (info_cpu _) (by rw [cpc_size, cpc_size]) (cpc_ones _) ?_))
  refine go_onP (motive := fun W => Code.wp _ _ _ _ W) (Q := fun W => Row W w.heap.size (cpc k) 31 ∧ Row W w2.heap.size (cpc K) 31 ∧ Below w.heap.size w W) ⟨R1.out.ca Bw2.out _, Row.new w2 (cpc K) 31, (BB.out.trans ((Bw1.out.trans (Bw2.out.mono Bw1.out.size)).mono BB.out.size)).alloc (Nat.le_trans BB.out.size (Nat.le_trans Bw1.out.size Bw2.out.size)) _⟩ ?_
  clear R0 R1 BB Bw1 Bw2 HFi HPr
  generalize w2.heap.size = gp
  rintro W3 ⟨q9, q10, c0⟩
  have R0 : Hid (Row W3 w.heap.size (cpc k) 31) := q9
  have RP : Hid (Row W3 gp (cpc K) 31) := q10
  have BB : Hid (Below w.heap.size w W3) := c0
  clear q9 q10 c0
  go_upto_region 5 with (first | (refine wpList_load_row (by rfl) _ _ (by rfl) _ (by rfl) 31 _ (0, 0) _ R0.out Try.underlying31 (by rfl) (info_cpu _) ?_) | (go_at_call 14; refine (HRt.out _).mono ?_; rintro e w4 ⟨rfl, hb⟩; have Bw4 : Hid (Below W3.heap.size W3 w4) := hb; clear hb) | (refine wpList_store_last (by rfl) _ _ _ (by rfl) (by rfl) _ _ _ (by rfl) (by rfl) (by rfl) (info_cpu _) (by rw [cpc_size, cpc_size]) (cpc_ones _) ?_))
  refine go_onP (motive := fun W => Code.wp _ _ _ _ W) (Q := fun W => Row W w.heap.size (cpc k) 31 ∧ Row W gp (cpc K) 31 ∧ Row W w4.heap.size (cpc K) 31 ∧ Below w.heap.size w W) ⟨R0.out.ca Bw4.out _, RP.out.ca Bw4.out _, Row.new w4 (cpc K) 31, (BB.out.trans (Bw4.out.mono BB.out.size)).alloc (Nat.le_trans BB.out.size Bw4.out.size) _⟩ ?_
  clear R0 RP BB Bw4 HRt hz
  generalize w4.heap.size = go
  rintro W5 ⟨q9, q10, q11, c0⟩
  have R0 : Hid (Row W5 w.heap.size (cpc k) 31) := q9
  have RP : Hid (Row W5 gp (cpc K) 31) := q10
  have RO : Hid (Row W5 go (cpc K) 31) := q11
  have BB : Hid (Below w.heap.size w W5) := c0
  have K1 : W5.cell? ⟨gp, 33, none⟩ = some (.int .i64 0) := by rw [← HMD.out]; exact q10.cls.md
  have K2 := q10.cls.s0
  clear q9 q10 q11 c0
  go_upto_region 7 with (first | (refine wpList_load_rowG (by rfl) _ _ (by rfl) _ (by rfl) 31 _ (0, 0) _ RO.out Try.underlying31 (by rfl) (info_cpu _) ?_) | (refine wpList_load_rowG (by rfl) _ _ (by rfl) _ (by rfl) 31 _ (0, 0) _ RP.out Try.underlying31 (by rfl) (info_cpu _) ?_))
  go_upto_region 10 with fail
  clear K1 K2 heq
  have HR8 : Hid (∀ w' : World, Below W5.heap.size W5 w' → Row w' w.heap.size (cpc k) 31) := fun w' h => R0.out.cb h
  go_wp2_with (first | (refine wpList_load_row (by rfl) _ _ (by rfl) _ (by rfl) 31 _ (0, 0) _ R0.out Try.underlying31 (by rfl) (info_cpu _) ?_) | (refine wpList_load_rowG (by rfl) _ _ (by rfl) _ (by rfl) 31 _ (0, 0) _ R8.out Try.underlying31 (by rfl) (info_cpu _) ?_) | (go_at_call 17; refine (HEf.out _).mono ?_; rintro e w8 ⟨rfl, hb⟩; have R8 : Hid (Row w8 w.heap.size (cpc k) 31) := HR8.out w8 hb; have Bw8 : Hid (Below W5.heap.size W5 w8) := hb; clear hb HR8) | (go_at_call 17; refine (HEf.out _).mono ?_; rintro e w9 ⟨rfl, hb⟩; have Bw9 : Hid (Below w8.heap.size w8 w9) := hb; clear hb))
  go_ret
  exact ⟨rfl, BB.out.trans ((Bw8.out.trans (Bw9.out.mono Bw8.out.size)).mono BB.out.size)⟩
set_option maxRecDepth 100000 in
set_option maxHeartbeats 2000000 in
theorem tmodes_m0f (hp : CPr) (hf : ∀ W, Calls Try.prog 11 #[] W fun e w' => e = .returned (.bool true) ∧ Below W.heap.size W w') (hrt : TRt) (hef : TEf) (k : Cp) (hmd : (PR k).md = 3) (hz0 : mpB ((PR k).s 0) = 0) (hb : ((PR k).s 0).getLsbD 17 = false) (w : World) :
    Calls Try.prog 8 #[.agg (cpc k)] w fun e w' => e = .returned (.bool true) ∧ Below w.heap.size w w' := by
  have hz := zero_cpu
  obtain ⟨W0, hW0, r0, b0, s0⟩ := start1 w (cpc k) 31
  clear s0
  have HFi : Hid (∀ W, Calls Try.prog 11 #[] W fun e w' => e = .returned (.bool true) ∧ Below W.heap.size W w') := hf
  have HPr : Hid (∀ W, Calls Try.prog 12 #[.agg (cpc k)] W fun e w' => e = .returned (.agg (cpc (PR k))) ∧ Below W.heap.size W w') := hp k
  have hok : RTk k = true := by unfold RTk; rw [hmd]; rfl
  have HRt : Hid (∀ W, Calls Try.prog 14 #[.agg (cpc k)] W fun e w' => e = .returned (.tuple #[.agg (cpc (RTc k)), .bool true]) ∧ Below W.heap.size W w') := fun W => by have h := hrt k W; rw [hok] at h; exact h
  have hev : EF k = 3 := by unfold EF; rw [if_neg (by rw [hb]; simp), hmd]
  have HEf : Hid (∀ W, Calls Try.prog 17 #[.agg (cpc k)] W fun e w' => e = .returned (.int .i64 3) ∧ Below W.heap.size W w') := fun W => by have h := hef k W; rw [hev] at h; exact h
  have HO : Hid ((RTc k).md = 0) := by unfold Hid RTc; rw [if_pos hmd]; exact hz0
  have HS1 : Hid (∀ W, Calls Try.prog 18 #[.agg (cpc (RTc k)), .int .u64 17] W fun e w' => e = .returned (.bool false) ∧ Below W.heap.size W w') := fun W => by
    have h := status_c (RTc k) 17 (by decide) W
    rw [show (RTc k).s 0 = rtS ((PR k).s 0) by unfold RTc; rw [if_pos hmd]; rfl, rtS_17 _ hz0] at h
    exact h
  have HS2 : Hid (∀ W, Calls Try.prog 18 #[.agg (cpc (PR k)), .int .u64 17] W fun e w' => e = .returned (.bool false) ∧ Below W.heap.size W w') := fun W => by have h := status_c (PR k) 17 (by decide) W; rw [hb] at h; exact h
  have q1 : n64 ((PR k).s 0) / (2048 : Int) = n64 ((PR k).s 0 >>> 11) := n64_shr ((PR k).s 0) 11
  have q2 : bits .and .u64 (n64 ((PR k).s 0 >>> 11)) 3 = n64 ((PR k).s 0 >>> 11 &&& 3#64) := n64_and ((PR k).s 0 >>> 11) 3#64
  have q3 : (n64 ((PR k).s 0 >>> 11 &&& 3#64) == 0) = true := by
    rw [mpp_0]
    unfold mpB at hz0
    cases hq : ((PR k).s 0).getLsbD 11 with
    | true => rw [hq] at hz0; simp at hz0
    | false => rw [hq] at hz0; rfl
  have HMD : Hid ((PR k).md = 3) := hmd
  clear hok hev hmd hp hf hrt hef hz0 hb
  generalize n64 ((PR k).s 0 >>> 11 &&& 3#64) = u1 at q2 q3
  generalize n64 ((PR k).s 0 >>> 11) = u2 at q1 q2
  generalize RTc k = O at HRt HO HS1
  generalize PR k = K at HPr HS2 q1 HMD
  have R0 : Hid (Row W0 w.heap.size (cpc k) 31) := r0.out
  have BB : Hid (Below w.heap.size w W0) := b0.out
  clear r0 b0
  go_enter Try.func8, Try.ntmps8
  go_upto_region 1 with fail
  clear hW0
  go_upto_region 3 with (go_at_call 11; refine (HFi.out _).mono ?_; rintro e w1 ⟨rfl, hb⟩; have Bw1 : Hid (Below W0.heap.size W0 w1) := hb; clear hb)
  have R1 : Hid (Row w1 w.heap.size (cpc k) 31) := R0.out.cb Bw1.out
  go_upto_region 4 with (first | (refine wpList_load_row (by rfl) _ _ (by rfl) _ (by rfl) 31 _ (0, 0) _ R1.out Try.underlying31 (by rfl) (info_cpu _) ?_) | (go_at_call 12; refine (HPr.out _).mono ?_; rintro e w2 ⟨rfl, hb⟩; have Bw2 : Hid (Below w1.heap.size w1 w2) := hb; clear hb) | (refine wpList_store_last (by rfl) _ _ _ (by rfl) (by rfl) _ _ _ (by rfl) (by rfl) (by rfl) (info_cpu _) (by rw [cpc_size, cpc_size]) (cpc_ones _) ?_))
  refine go_onP (motive := fun W => Code.wp _ _ _ _ W) (Q := fun W => Row W w.heap.size (cpc k) 31 ∧ Row W w2.heap.size (cpc K) 31 ∧ Below w.heap.size w W) ⟨R1.out.ca Bw2.out _, Row.new w2 (cpc K) 31, (BB.out.trans ((Bw1.out.trans (Bw2.out.mono Bw1.out.size)).mono BB.out.size)).alloc (Nat.le_trans BB.out.size (Nat.le_trans Bw1.out.size Bw2.out.size)) _⟩ ?_
  clear R0 R1 BB Bw1 Bw2 HFi HPr
  generalize w2.heap.size = gp
  rintro W3 ⟨q9, q10, c0⟩
  have R0 : Hid (Row W3 w.heap.size (cpc k) 31) := q9
  have RP : Hid (Row W3 gp (cpc K) 31) := q10
  have BB : Hid (Below w.heap.size w W3) := c0
  clear q9 q10 c0
  go_upto_region 5 with (first | (refine wpList_load_row (by rfl) _ _ (by rfl) _ (by rfl) 31 _ (0, 0) _ R0.out Try.underlying31 (by rfl) (info_cpu _) ?_) | (go_at_call 14; refine (HRt.out _).mono ?_; rintro e w4 ⟨rfl, hb⟩; have Bw4 : Hid (Below W3.heap.size W3 w4) := hb; clear hb) | (refine wpList_store_last (by rfl) _ _ _ (by rfl) (by rfl) _ _ _ (by rfl) (by rfl) (by rfl) (info_cpu _) (by rw [cpc_size, cpc_size]) (cpc_ones _) ?_))
  refine go_onP (motive := fun W => Code.wp _ _ _ _ W) (Q := fun W => Row W w.heap.size (cpc k) 31 ∧ Row W gp (cpc K) 31 ∧ Row W w4.heap.size (cpc O) 31 ∧ Below w.heap.size w W) ⟨R0.out.ca Bw4.out _, RP.out.ca Bw4.out _, Row.new w4 (cpc O) 31, (BB.out.trans (Bw4.out.mono BB.out.size)).alloc (Nat.le_trans BB.out.size Bw4.out.size) _⟩ ?_
  clear R0 RP BB Bw4 HRt hz
  generalize w4.heap.size = go
  rintro W5 ⟨q9, q10, q11, c0⟩
  have R0 : Hid (Row W5 w.heap.size (cpc k) 31) := q9
  have RP : Hid (Row W5 gp (cpc K) 31) := q10
  have RO : Hid (Row W5 go (cpc O) 31) := q11
  have BB : Hid (Below w.heap.size w W5) := c0
  have K1 : W5.cell? ⟨gp, 33, none⟩ = some (.int .i64 3) := by rw [← HMD.out]; exact q10.cls.md
  have K2 := q10.cls.s0
  have K3 : W5.cell? ⟨go, 33, none⟩ = some (.int .i64 0) := by rw [← HO.out]; exact q11.cls.md
  clear q9 q10 q11 c0
  go_upto_region 7 with fail
  go_upto_region 9 with (first | (refine wpList_load_rowG (by rfl) _ _ (by rfl) _ (by rfl) 31 _ (0, 0) _ RO.out Try.underlying31 (by rfl) (info_cpu _) ?_) | (go_at_call 18; refine (HS1.out _).mono ?_; rintro e w6 ⟨rfl, hb⟩; have Bw6 : Hid (Below W5.heap.size W5 w6) := hb; clear hb))
  have R6 : Hid (Row w6 w.heap.size (cpc k) 31) := R0.out.cb Bw6.out
  have RP6 : Hid (Row w6 gp (cpc K) 31) := RP.out.cb Bw6.out
  have B6 : Hid (Below w.heap.size w w6) := BB.out.trans (Bw6.out.mono BB.out.size)
  clear K1 K2 K3
  have K1 : w6.cell? ⟨gp, 33, none⟩ = some (.int .i64 3) := by rw [← HMD.out]; exact RP6.out.cls.md
  have K2 := RP6.out.cls.s0
  clear R0 RP RO BB Bw6 HS1
  go_upto_region 10 with (first | (refine wpList_load_rowG (by rfl) _ _ (by rfl) _ (by rfl) 31 _ (0, 0) _ RP6.out Try.underlying31 (by rfl) (info_cpu _) ?_) | (go_at_call 18; refine (HS2.out _).mono ?_; rintro e w7 ⟨rfl, hb⟩; have Bw7 : Hid (Below w6.heap.size w6 w7) := hb; clear hb))
  have R7 : Hid (Row w7 w.heap.size (cpc k) 31) := R6.out.cb Bw7.out
  have B7 : Hid (Below w.heap.size w w7) := B6.out.trans (Bw7.out.mono B6.out.size)
  clear K1 K2 R6 RP6 B6 Bw7 HS2
  have HR8 : Hid (∀ w' : World, Below w7.heap.size w7 w' → Row w' w.heap.size (cpc k) 31) := fun w' h => R7.out.cb h
  go_wp2_with (first | (refine wpList_load_row (by rfl) _ _ (by rfl) _ (by rfl) 31 _ (0, 0) _ R7.out Try.underlying31 (by rfl) (info_cpu _) ?_) | (refine wpList_load_rowG (by rfl) _ _ (by rfl) _ (by rfl) 31 _ (0, 0) _ R8.out Try.underlying31 (by rfl) (info_cpu _) ?_) | (go_at_call 17; refine (HEf.out _).mono ?_; rintro e w8 ⟨rfl, hb⟩; have R8 : Hid (Row w8 w.heap.size (cpc k) 31) := HR8.out w8 hb; have Bw8 : Hid (Below w7.heap.size w7 w8) := hb; clear hb HR8) | (go_at_call 17; refine (HEf.out _).mono ?_; rintro e w9 ⟨rfl, hb⟩; have Bw9 : Hid (Below w8.heap.size w8 w9) := hb; clear hb))
  go_ret
  exact ⟨rfl, B7.out.trans ((Bw8.out.trans (Bw9.out.mono Bw8.out.size)).mono B7.out.size)⟩
set_option maxRecDepth 100000 in
set_option maxHeartbeats 2000000 in
theorem tmodes_m0t (hp : CPr) (hf : ∀ W, Calls Try.prog 11 #[] W fun e w' => e = .returned (.bool true) ∧ Below W.heap.size W w') (hrt : TRt) (hef : TEf) (k : Cp) (hmd : (PR k).md = 3) (hz0 : mpB ((PR k).s 0) = 0) (hb : ((PR k).s 0).getLsbD 17 = true) (w : World) :
    Calls Try.prog 8 #[.agg (cpc k)] w fun e w' => e = .returned (.bool true) ∧ Below w.heap.size w w' := by
  have hz := zero_cpu
  obtain ⟨W0, hW0, r0, b0, s0⟩ := start1 w (cpc k) 31
  clear s0
  have HFi : Hid (∀ W, Calls Try.prog 11 #[] W fun e w' => e = .returned (.bool true) ∧ Below W.heap.size W w') := hf
  have HPr : Hid (∀ W, Calls Try.prog 12 #[.agg (cpc k)] W fun e w' => e = .returned (.agg (cpc (PR k))) ∧ Below W.heap.size W w') := hp k
  have hok : RTk k = true := by unfold RTk; rw [hmd]; rfl
  have HRt : Hid (∀ W, Calls Try.prog 14 #[.agg (cpc k)] W fun e w' => e = .returned (.tuple #[.agg (cpc (RTc k)), .bool true]) ∧ Below W.heap.size W w') := fun W => by have h := hrt k W; rw [hok] at h; exact h
  have hev : EF k = 0 := by unfold EF; rw [if_pos ⟨hmd, hb⟩, hz0]
  have HEf : Hid (∀ W, Calls Try.prog 17 #[.agg (cpc k)] W fun e w' => e = .returned (.int .i64 0) ∧ Below W.heap.size W w') := fun W => by have h := hef k W; rw [hev] at h; exact h
  have HO : Hid ((RTc k).md = 0) := by unfold Hid RTc; rw [if_pos hmd]; exact hz0
  have HS1 : Hid (∀ W, Calls Try.prog 18 #[.agg (cpc (RTc k)), .int .u64 17] W fun e w' => e = .returned (.bool false) ∧ Below W.heap.size W w') := fun W => by
    have h := status_c (RTc k) 17 (by decide) W
    rw [show (RTc k).s 0 = rtS ((PR k).s 0) by unfold RTc; rw [if_pos hmd]; rfl, rtS_17 _ hz0] at h
    exact h
  have HS2 : Hid (∀ W, Calls Try.prog 18 #[.agg (cpc (PR k)), .int .u64 17] W fun e w' => e = .returned (.bool true) ∧ Below W.heap.size W w') := fun W => by have h := status_c (PR k) 17 (by decide) W; rw [hb] at h; exact h
  have q1 : n64 ((PR k).s 0) / (2048 : Int) = n64 ((PR k).s 0 >>> 11) := n64_shr ((PR k).s 0) 11
  have q2 : bits .and .u64 (n64 ((PR k).s 0 >>> 11)) 3 = n64 ((PR k).s 0 >>> 11 &&& 3#64) := n64_and ((PR k).s 0 >>> 11) 3#64
  have q3 : (n64 ((PR k).s 0 >>> 11 &&& 3#64) == 0) = true := by
    rw [mpp_0]
    unfold mpB at hz0
    cases hq : ((PR k).s 0).getLsbD 11 with
    | true => rw [hq] at hz0; simp at hz0
    | false => rw [hq] at hz0; rfl
  have HMD : Hid ((PR k).md = 3) := hmd
  clear hok hev hmd hp hf hrt hef hz0 hb
  generalize n64 ((PR k).s 0 >>> 11 &&& 3#64) = u1 at q2 q3
  generalize n64 ((PR k).s 0 >>> 11) = u2 at q1 q2
  generalize RTc k = O at HRt HO HS1
  generalize PR k = K at HPr HS2 q1 HMD
  have R0 : Hid (Row W0 w.heap.size (cpc k) 31) := r0.out
  have BB : Hid (Below w.heap.size w W0) := b0.out
  clear r0 b0
  go_enter Try.func8, Try.ntmps8
  go_upto_region 1 with fail
  clear hW0
  go_upto_region 3 with (go_at_call 11; refine (HFi.out _).mono ?_; rintro e w1 ⟨rfl, hb⟩; have Bw1 : Hid (Below W0.heap.size W0 w1) := hb; clear hb)
  have R1 : Hid (Row w1 w.heap.size (cpc k) 31) := R0.out.cb Bw1.out
  go_upto_region 4 with (first | (refine wpList_load_row (by rfl) _ _ (by rfl) _ (by rfl) 31 _ (0, 0) _ R1.out Try.underlying31 (by rfl) (info_cpu _) ?_) | (go_at_call 12; refine (HPr.out _).mono ?_; rintro e w2 ⟨rfl, hb⟩; have Bw2 : Hid (Below w1.heap.size w1 w2) := hb; clear hb) | (refine wpList_store_last (by rfl) _ _ _ (by rfl) (by rfl) _ _ _ (by rfl) (by rfl) (by rfl) (info_cpu _) (by rw [cpc_size, cpc_size]) (cpc_ones _) ?_))
  refine go_onP (motive := fun W => Code.wp _ _ _ _ W) (Q := fun W => Row W w.heap.size (cpc k) 31 ∧ Row W w2.heap.size (cpc K) 31 ∧ Below w.heap.size w W) ⟨R1.out.ca Bw2.out _, Row.new w2 (cpc K) 31, (BB.out.trans ((Bw1.out.trans (Bw2.out.mono Bw1.out.size)).mono BB.out.size)).alloc (Nat.le_trans BB.out.size (Nat.le_trans Bw1.out.size Bw2.out.size)) _⟩ ?_
  clear R0 R1 BB Bw1 Bw2 HFi HPr
  generalize w2.heap.size = gp
  rintro W3 ⟨q9, q10, c0⟩
  have R0 : Hid (Row W3 w.heap.size (cpc k) 31) := q9
  have RP : Hid (Row W3 gp (cpc K) 31) := q10
  have BB : Hid (Below w.heap.size w W3) := c0
  clear q9 q10 c0
  go_upto_region 5 with (first | (refine wpList_load_row (by rfl) _ _ (by rfl) _ (by rfl) 31 _ (0, 0) _ R0.out Try.underlying31 (by rfl) (info_cpu _) ?_) | (go_at_call 14; refine (HRt.out _).mono ?_; rintro e w4 ⟨rfl, hb⟩; have Bw4 : Hid (Below W3.heap.size W3 w4) := hb; clear hb) | (refine wpList_store_last (by rfl) _ _ _ (by rfl) (by rfl) _ _ _ (by rfl) (by rfl) (by rfl) (info_cpu _) (by rw [cpc_size, cpc_size]) (cpc_ones _) ?_))
  refine go_onP (motive := fun W => Code.wp _ _ _ _ W) (Q := fun W => Row W w.heap.size (cpc k) 31 ∧ Row W gp (cpc K) 31 ∧ Row W w4.heap.size (cpc O) 31 ∧ Below w.heap.size w W) ⟨R0.out.ca Bw4.out _, RP.out.ca Bw4.out _, Row.new w4 (cpc O) 31, (BB.out.trans (Bw4.out.mono BB.out.size)).alloc (Nat.le_trans BB.out.size Bw4.out.size) _⟩ ?_
  clear R0 RP BB Bw4 HRt hz
  generalize w4.heap.size = go
  rintro W5 ⟨q9, q10, q11, c0⟩
  have R0 : Hid (Row W5 w.heap.size (cpc k) 31) := q9
  have RP : Hid (Row W5 gp (cpc K) 31) := q10
  have RO : Hid (Row W5 go (cpc O) 31) := q11
  have BB : Hid (Below w.heap.size w W5) := c0
  have K1 : W5.cell? ⟨gp, 33, none⟩ = some (.int .i64 3) := by rw [← HMD.out]; exact q10.cls.md
  have K2 := q10.cls.s0
  have K3 : W5.cell? ⟨go, 33, none⟩ = some (.int .i64 0) := by rw [← HO.out]; exact q11.cls.md
  clear q9 q10 q11 c0
  go_upto_region 7 with fail
  go_upto_region 9 with (first | (refine wpList_load_rowG (by rfl) _ _ (by rfl) _ (by rfl) 31 _ (0, 0) _ RO.out Try.underlying31 (by rfl) (info_cpu _) ?_) | (go_at_call 18; refine (HS1.out _).mono ?_; rintro e w6 ⟨rfl, hb⟩; have Bw6 : Hid (Below W5.heap.size W5 w6) := hb; clear hb))
  have R6 : Hid (Row w6 w.heap.size (cpc k) 31) := R0.out.cb Bw6.out
  have RP6 : Hid (Row w6 gp (cpc K) 31) := RP.out.cb Bw6.out
  have B6 : Hid (Below w.heap.size w w6) := BB.out.trans (Bw6.out.mono BB.out.size)
  clear K1 K2 K3
  have K1 : w6.cell? ⟨gp, 33, none⟩ = some (.int .i64 3) := by rw [← HMD.out]; exact RP6.out.cls.md
  have K2 := RP6.out.cls.s0
  clear R0 RP RO BB Bw6 HS1
  have Kx : ∀ w' : World, Below w6.heap.size w6 w' → w'.cell? ⟨gp, 35, none⟩ = some (.int .u64 (n64 (K.s 0))) := fun w' h => (RP6.out.cb h).cls.s0
  go_upto_region 10 with (first | (refine wpList_load_rowG (by rfl) _ _ (by rfl) _ (by rfl) 31 _ (0, 0) _ RP6.out Try.underlying31 (by rfl) (info_cpu _) ?_) | (go_at_call 18; refine (HS2.out _).mono ?_; rintro e w7 ⟨rfl, hb⟩; have K9 := Kx _ hb; have Bw7 : Hid (Below w6.heap.size w6 w7) := hb; clear hb))
  have R7 : Hid (Row w7 w.heap.size (cpc k) 31) := R6.out.cb Bw7.out
  have B7 : Hid (Below w.heap.size w w7) := B6.out.trans (Bw7.out.mono B6.out.size)
  clear K1 K2 Kx K9 R6 RP6 B6 Bw7 HS2
  have HR8 : Hid (∀ w' : World, Below w7.heap.size w7 w' → Row w' w.heap.size (cpc k) 31) := fun w' h => R7.out.cb h
  go_wp2_with (first | (refine wpList_load_row (by rfl) _ _ (by rfl) _ (by rfl) 31 _ (0, 0) _ R7.out Try.underlying31 (by rfl) (info_cpu _) ?_) | (refine wpList_load_rowG (by rfl) _ _ (by rfl) _ (by rfl) 31 _ (0, 0) _ R8.out Try.underlying31 (by rfl) (info_cpu _) ?_) | (go_at_call 17; refine (HEf.out _).mono ?_; rintro e w8 ⟨rfl, hb⟩; have R8 : Hid (Row w8 w.heap.size (cpc k) 31) := HR8.out w8 hb; have Bw8 : Hid (Below w7.heap.size w7 w8) := hb; clear hb HR8) | (go_at_call 17; refine (HEf.out _).mono ?_; rintro e w9 ⟨rfl, hb⟩; have Bw9 : Hid (Below w8.heap.size w8 w9) := hb; clear hb))
  go_ret
  exact ⟨rfl, B7.out.trans ((Bw8.out.trans (Bw9.out.mono Bw8.out.size)).mono B7.out.size)⟩
set_option maxRecDepth 100000 in
set_option maxHeartbeats 2000000 in
theorem tmodes_m3f (hp : CPr) (hf : ∀ W, Calls Try.prog 11 #[] W fun e w' => e = .returned (.bool true) ∧ Below W.heap.size W w') (hrt : TRt) (hef : TEf) (k : Cp) (hmd : (PR k).md = 3) (hz0 : mpB ((PR k).s 0) = 3) (hb : ((PR k).s 0).getLsbD 17 = false) (w : World) :
    Calls Try.prog 8 #[.agg (cpc k)] w fun e w' => e = .returned (.bool true) ∧ Below w.heap.size w w' := by
  have hz := zero_cpu
  obtain ⟨W0, hW0, r0, b0, s0⟩ := start1 w (cpc k) 31
  clear s0
  have HFi : Hid (∀ W, Calls Try.prog 11 #[] W fun e w' => e = .returned (.bool true) ∧ Below W.heap.size W w') := hf
  have HPr : Hid (∀ W, Calls Try.prog 12 #[.agg (cpc k)] W fun e w' => e = .returned (.agg (cpc (PR k))) ∧ Below W.heap.size W w') := hp k
  have hok : RTk k = true := by unfold RTk; rw [hmd]; rfl
  have HRt : Hid (∀ W, Calls Try.prog 14 #[.agg (cpc k)] W fun e w' => e = .returned (.tuple #[.agg (cpc (RTc k)), .bool true]) ∧ Below W.heap.size W w') := fun W => by have h := hrt k W; rw [hok] at h; exact h
  have hev : EF k = 3 := by unfold EF; rw [if_neg (by rw [hb]; simp), hmd]
  have HEf : Hid (∀ W, Calls Try.prog 17 #[.agg (cpc k)] W fun e w' => e = .returned (.int .i64 3) ∧ Below W.heap.size W w') := fun W => by have h := hef k W; rw [hev] at h; exact h
  have HO : Hid ((RTc k).md = 3) := by unfold Hid RTc; rw [if_pos hmd]; exact hz0
  have HS2 : Hid (∀ W, Calls Try.prog 18 #[.agg (cpc (PR k)), .int .u64 17] W fun e w' => e = .returned (.bool false) ∧ Below W.heap.size W w') := fun W => by have h := status_c (PR k) 17 (by decide) W; rw [hb] at h; exact h
  have q1 : n64 ((PR k).s 0) / (2048 : Int) = n64 ((PR k).s 0 >>> 11) := n64_shr ((PR k).s 0) 11
  have q2 : bits .and .u64 (n64 ((PR k).s 0 >>> 11)) 3 = n64 ((PR k).s 0 >>> 11 &&& 3#64) := n64_and ((PR k).s 0 >>> 11) 3#64
  have q3 : (n64 ((PR k).s 0 >>> 11 &&& 3#64) == 0) = false := by
    rw [mpp_0]
    unfold mpB at hz0
    cases hq : ((PR k).s 0).getLsbD 11 with
    | true => rw [hq] at hz0; rfl
    | false => rw [hq] at hz0; simp at hz0
  have HMD : Hid ((PR k).md = 3) := hmd
  clear hok hev hmd hp hf hrt hef hz0 hb
  generalize n64 ((PR k).s 0 >>> 11 &&& 3#64) = u1 at q2 q3
  generalize n64 ((PR k).s 0 >>> 11) = u2 at q1 q2
  generalize RTc k = O at HRt HO
  generalize PR k = K at HPr HS2 q1 HMD
  have R0 : Hid (Row W0 w.heap.size (cpc k) 31) := r0.out
  have BB : Hid (Below w.heap.size w W0) := b0.out
  clear r0 b0
  go_enter Try.func8, Try.ntmps8
  go_upto_region 1 with fail
  clear hW0
  go_upto_region 3 with (go_at_call 11; refine (HFi.out _).mono ?_; rintro e w1 ⟨rfl, hb⟩; have Bw1 : Hid (Below W0.heap.size W0 w1) := hb; clear hb)
  have R1 : Hid (Row w1 w.heap.size (cpc k) 31) := R0.out.cb Bw1.out
  go_upto_region 4 with (first | (refine wpList_load_row (by rfl) _ _ (by rfl) _ (by rfl) 31 _ (0, 0) _ R1.out Try.underlying31 (by rfl) (info_cpu _) ?_) | (go_at_call 12; refine (HPr.out _).mono ?_; rintro e w2 ⟨rfl, hb⟩; have Bw2 : Hid (Below w1.heap.size w1 w2) := hb; clear hb) | (refine wpList_store_last (by rfl) _ _ _ (by rfl) (by rfl) _ _ _ (by rfl) (by rfl) (by rfl) (info_cpu _) (by rw [cpc_size, cpc_size]) (cpc_ones _) ?_))
  refine go_onP (motive := fun W => Code.wp _ _ _ _ W) (Q := fun W => Row W w.heap.size (cpc k) 31 ∧ Row W w2.heap.size (cpc K) 31 ∧ Below w.heap.size w W) ⟨R1.out.ca Bw2.out _, Row.new w2 (cpc K) 31, (BB.out.trans ((Bw1.out.trans (Bw2.out.mono Bw1.out.size)).mono BB.out.size)).alloc (Nat.le_trans BB.out.size (Nat.le_trans Bw1.out.size Bw2.out.size)) _⟩ ?_
  clear R0 R1 BB Bw1 Bw2 HFi HPr
  generalize w2.heap.size = gp
  rintro W3 ⟨q9, q10, c0⟩
  have R0 : Hid (Row W3 w.heap.size (cpc k) 31) := q9
  have RP : Hid (Row W3 gp (cpc K) 31) := q10
  have BB : Hid (Below w.heap.size w W3) := c0
  clear q9 q10 c0
  go_upto_region 5 with (first | (refine wpList_load_row (by rfl) _ _ (by rfl) _ (by rfl) 31 _ (0, 0) _ R0.out Try.underlying31 (by rfl) (info_cpu _) ?_) | (go_at_call 14; refine (HRt.out _).mono ?_; rintro e w4 ⟨rfl, hb⟩; have Bw4 : Hid (Below W3.heap.size W3 w4) := hb; clear hb) | (refine wpList_store_last (by rfl) _ _ _ (by rfl) (by rfl) _ _ _ (by rfl) (by rfl) (by rfl) (info_cpu _) (by rw [cpc_size, cpc_size]) (cpc_ones _) ?_))
  refine go_onP (motive := fun W => Code.wp _ _ _ _ W) (Q := fun W => Row W w.heap.size (cpc k) 31 ∧ Row W gp (cpc K) 31 ∧ Row W w4.heap.size (cpc O) 31 ∧ Below w.heap.size w W) ⟨R0.out.ca Bw4.out _, RP.out.ca Bw4.out _, Row.new w4 (cpc O) 31, (BB.out.trans (Bw4.out.mono BB.out.size)).alloc (Nat.le_trans BB.out.size Bw4.out.size) _⟩ ?_
  clear R0 RP BB Bw4 HRt hz
  generalize w4.heap.size = go
  rintro W5 ⟨q9, q10, q11, c0⟩
  have R0 : Hid (Row W5 w.heap.size (cpc k) 31) := q9
  have RP : Hid (Row W5 gp (cpc K) 31) := q10
  have RO : Hid (Row W5 go (cpc O) 31) := q11
  have BB : Hid (Below w.heap.size w W5) := c0
  have K1 : W5.cell? ⟨gp, 33, none⟩ = some (.int .i64 3) := by rw [← HMD.out]; exact q10.cls.md
  have K2 := q10.cls.s0
  have K3 : W5.cell? ⟨go, 33, none⟩ = some (.int .i64 3) := by rw [← HO.out]; exact q11.cls.md
  clear q9 q10 q11 c0
  go_upto_region 7 with fail
  go_upto_region 9 with fail
  clear K3
  go_upto_region 10 with (first | (refine wpList_load_rowG (by rfl) _ _ (by rfl) _ (by rfl) 31 _ (0, 0) _ RP.out Try.underlying31 (by rfl) (info_cpu _) ?_) | (go_at_call 18; refine (HS2.out _).mono ?_; rintro e w7 ⟨rfl, hb⟩; have Bw7 : Hid (Below W5.heap.size W5 w7) := hb; clear hb))
  have R7 : Hid (Row w7 w.heap.size (cpc k) 31) := R0.out.cb Bw7.out
  have B7 : Hid (Below w.heap.size w w7) := BB.out.trans (Bw7.out.mono BB.out.size)
  clear K1 K2 R0 RP BB Bw7 HS2
  have HR8 : Hid (∀ w' : World, Below w7.heap.size w7 w' → Row w' w.heap.size (cpc k) 31) := fun w' h => R7.out.cb h
  go_wp2_with (first | (refine wpList_load_row (by rfl) _ _ (by rfl) _ (by rfl) 31 _ (0, 0) _ R7.out Try.underlying31 (by rfl) (info_cpu _) ?_) | (refine wpList_load_rowG (by rfl) _ _ (by rfl) _ (by rfl) 31 _ (0, 0) _ R8.out Try.underlying31 (by rfl) (info_cpu _) ?_) | (go_at_call 17; refine (HEf.out _).mono ?_; rintro e w8 ⟨rfl, hb⟩; have R8 : Hid (Row w8 w.heap.size (cpc k) 31) := HR8.out w8 hb; have Bw8 : Hid (Below w7.heap.size w7 w8) := hb; clear hb HR8) | (go_at_call 17; refine (HEf.out _).mono ?_; rintro e w9 ⟨rfl, hb⟩; have Bw9 : Hid (Below w8.heap.size w8 w9) := hb; clear hb))
  go_ret
  exact ⟨rfl, B7.out.trans ((Bw8.out.trans (Bw9.out.mono Bw8.out.size)).mono B7.out.size)⟩
set_option maxRecDepth 100000 in
set_option maxHeartbeats 2000000 in
theorem tmodes_m3t (hp : CPr) (hf : ∀ W, Calls Try.prog 11 #[] W fun e w' => e = .returned (.bool true) ∧ Below W.heap.size W w') (hrt : TRt) (hef : TEf) (k : Cp) (hmd : (PR k).md = 3) (hz0 : mpB ((PR k).s 0) = 3) (hb : ((PR k).s 0).getLsbD 17 = true) (w : World) :
    Calls Try.prog 8 #[.agg (cpc k)] w fun e w' => e = .returned (.bool true) ∧ Below w.heap.size w w' := by
  have hz := zero_cpu
  obtain ⟨W0, hW0, r0, b0, s0⟩ := start1 w (cpc k) 31
  clear s0
  have HFi : Hid (∀ W, Calls Try.prog 11 #[] W fun e w' => e = .returned (.bool true) ∧ Below W.heap.size W w') := hf
  have HPr : Hid (∀ W, Calls Try.prog 12 #[.agg (cpc k)] W fun e w' => e = .returned (.agg (cpc (PR k))) ∧ Below W.heap.size W w') := hp k
  have hok : RTk k = true := by unfold RTk; rw [hmd]; rfl
  have HRt : Hid (∀ W, Calls Try.prog 14 #[.agg (cpc k)] W fun e w' => e = .returned (.tuple #[.agg (cpc (RTc k)), .bool true]) ∧ Below W.heap.size W w') := fun W => by have h := hrt k W; rw [hok] at h; exact h
  have hev : EF k = 3 := by unfold EF; rw [if_pos ⟨hmd, hb⟩, hz0]
  have HEf : Hid (∀ W, Calls Try.prog 17 #[.agg (cpc k)] W fun e w' => e = .returned (.int .i64 3) ∧ Below W.heap.size W w') := fun W => by have h := hef k W; rw [hev] at h; exact h
  have HO : Hid ((RTc k).md = 3) := by unfold Hid RTc; rw [if_pos hmd]; exact hz0
  have HS2 : Hid (∀ W, Calls Try.prog 18 #[.agg (cpc (PR k)), .int .u64 17] W fun e w' => e = .returned (.bool true) ∧ Below W.heap.size W w') := fun W => by have h := status_c (PR k) 17 (by decide) W; rw [hb] at h; exact h
  have q1 : n64 ((PR k).s 0) / (2048 : Int) = n64 ((PR k).s 0 >>> 11) := n64_shr ((PR k).s 0) 11
  have q2 : bits .and .u64 (n64 ((PR k).s 0 >>> 11)) 3 = n64 ((PR k).s 0 >>> 11 &&& 3#64) := n64_and ((PR k).s 0 >>> 11) 3#64
  have q3 : (n64 ((PR k).s 0 >>> 11 &&& 3#64) == 0) = false := by
    rw [mpp_0]
    unfold mpB at hz0
    cases hq : ((PR k).s 0).getLsbD 11 with
    | true => rw [hq] at hz0; rfl
    | false => rw [hq] at hz0; simp at hz0
  have HMD : Hid ((PR k).md = 3) := hmd
  clear hok hev hmd hp hf hrt hef hz0 hb
  generalize n64 ((PR k).s 0 >>> 11 &&& 3#64) = u1 at q2 q3
  generalize n64 ((PR k).s 0 >>> 11) = u2 at q1 q2
  generalize RTc k = O at HRt HO
  generalize PR k = K at HPr HS2 q1 HMD
  have R0 : Hid (Row W0 w.heap.size (cpc k) 31) := r0.out
  have BB : Hid (Below w.heap.size w W0) := b0.out
  clear r0 b0
  go_enter Try.func8, Try.ntmps8
  go_upto_region 1 with fail
  clear hW0
  go_upto_region 3 with (go_at_call 11; refine (HFi.out _).mono ?_; rintro e w1 ⟨rfl, hb⟩; have Bw1 : Hid (Below W0.heap.size W0 w1) := hb; clear hb)
  have R1 : Hid (Row w1 w.heap.size (cpc k) 31) := R0.out.cb Bw1.out
  go_upto_region 4 with (first | (refine wpList_load_row (by rfl) _ _ (by rfl) _ (by rfl) 31 _ (0, 0) _ R1.out Try.underlying31 (by rfl) (info_cpu _) ?_) | (go_at_call 12; refine (HPr.out _).mono ?_; rintro e w2 ⟨rfl, hb⟩; have Bw2 : Hid (Below w1.heap.size w1 w2) := hb; clear hb) | (refine wpList_store_last (by rfl) _ _ _ (by rfl) (by rfl) _ _ _ (by rfl) (by rfl) (by rfl) (info_cpu _) (by rw [cpc_size, cpc_size]) (cpc_ones _) ?_))
  refine go_onP (motive := fun W => Code.wp _ _ _ _ W) (Q := fun W => Row W w.heap.size (cpc k) 31 ∧ Row W w2.heap.size (cpc K) 31 ∧ Below w.heap.size w W) ⟨R1.out.ca Bw2.out _, Row.new w2 (cpc K) 31, (BB.out.trans ((Bw1.out.trans (Bw2.out.mono Bw1.out.size)).mono BB.out.size)).alloc (Nat.le_trans BB.out.size (Nat.le_trans Bw1.out.size Bw2.out.size)) _⟩ ?_
  clear R0 R1 BB Bw1 Bw2 HFi HPr
  generalize w2.heap.size = gp
  rintro W3 ⟨q9, q10, c0⟩
  have R0 : Hid (Row W3 w.heap.size (cpc k) 31) := q9
  have RP : Hid (Row W3 gp (cpc K) 31) := q10
  have BB : Hid (Below w.heap.size w W3) := c0
  clear q9 q10 c0
  go_upto_region 5 with (first | (refine wpList_load_row (by rfl) _ _ (by rfl) _ (by rfl) 31 _ (0, 0) _ R0.out Try.underlying31 (by rfl) (info_cpu _) ?_) | (go_at_call 14; refine (HRt.out _).mono ?_; rintro e w4 ⟨rfl, hb⟩; have Bw4 : Hid (Below W3.heap.size W3 w4) := hb; clear hb) | (refine wpList_store_last (by rfl) _ _ _ (by rfl) (by rfl) _ _ _ (by rfl) (by rfl) (by rfl) (info_cpu _) (by rw [cpc_size, cpc_size]) (cpc_ones _) ?_))
  refine go_onP (motive := fun W => Code.wp _ _ _ _ W) (Q := fun W => Row W w.heap.size (cpc k) 31 ∧ Row W gp (cpc K) 31 ∧ Row W w4.heap.size (cpc O) 31 ∧ Below w.heap.size w W) ⟨R0.out.ca Bw4.out _, RP.out.ca Bw4.out _, Row.new w4 (cpc O) 31, (BB.out.trans (Bw4.out.mono BB.out.size)).alloc (Nat.le_trans BB.out.size Bw4.out.size) _⟩ ?_
  clear R0 RP BB Bw4 HRt hz
  generalize w4.heap.size = go
  rintro W5 ⟨q9, q10, q11, c0⟩
  have R0 : Hid (Row W5 w.heap.size (cpc k) 31) := q9
  have RP : Hid (Row W5 gp (cpc K) 31) := q10
  have RO : Hid (Row W5 go (cpc O) 31) := q11
  have BB : Hid (Below w.heap.size w W5) := c0
  have K1 : W5.cell? ⟨gp, 33, none⟩ = some (.int .i64 3) := by rw [← HMD.out]; exact q10.cls.md
  have K2 := q10.cls.s0
  have K3 : W5.cell? ⟨go, 33, none⟩ = some (.int .i64 3) := by rw [← HO.out]; exact q11.cls.md
  clear q9 q10 q11 c0
  go_upto_region 7 with fail
  go_upto_region 9 with fail
  clear K3
  have Kx : ∀ w' : World, Below W5.heap.size W5 w' → w'.cell? ⟨gp, 35, none⟩ = some (.int .u64 (n64 (K.s 0))) := fun w' h => (RP.out.cb h).cls.s0
  go_upto_region 10 with (first | (refine wpList_load_rowG (by rfl) _ _ (by rfl) _ (by rfl) 31 _ (0, 0) _ RP.out Try.underlying31 (by rfl) (info_cpu _) ?_) | (go_at_call 18; refine (HS2.out _).mono ?_; rintro e w7 ⟨rfl, hb⟩; have K9 := Kx _ hb; have Bw7 : Hid (Below W5.heap.size W5 w7) := hb; clear hb))
  have R7 : Hid (Row w7 w.heap.size (cpc k) 31) := R0.out.cb Bw7.out
  have B7 : Hid (Below w.heap.size w w7) := BB.out.trans (Bw7.out.mono BB.out.size)
  clear K1 K2 Kx K9 R0 RP BB Bw7 HS2
  have HR8 : Hid (∀ w' : World, Below w7.heap.size w7 w' → Row w' w.heap.size (cpc k) 31) := fun w' h => R7.out.cb h
  go_wp2_with (first | (refine wpList_load_row (by rfl) _ _ (by rfl) _ (by rfl) 31 _ (0, 0) _ R7.out Try.underlying31 (by rfl) (info_cpu _) ?_) | (refine wpList_load_rowG (by rfl) _ _ (by rfl) _ (by rfl) 31 _ (0, 0) _ R8.out Try.underlying31 (by rfl) (info_cpu _) ?_) | (go_at_call 17; refine (HEf.out _).mono ?_; rintro e w8 ⟨rfl, hb⟩; have R8 : Hid (Row w8 w.heap.size (cpc k) 31) := HR8.out w8 hb; have Bw8 : Hid (Below w7.heap.size w7 w8) := hb; clear hb HR8) | (go_at_call 17; refine (HEf.out _).mono ?_; rintro e w9 ⟨rfl, hb⟩; have Bw9 : Hid (Below w8.heap.size w8 w9) := hb; clear hb))
  go_ret
  exact ⟨rfl, B7.out.trans ((Bw8.out.trans (Bw9.out.mono Bw8.out.size)).mono B7.out.size)⟩
theorem tmodes_walk (hp : CPr) (hpd : TPd) (hen : TEn) (hrt : TRt) (hwt : TWt) (hef : TEf) (k : Cp) (w : World) :
    Calls Try.prog 8 #[.agg (cpc k)] w fun e w' => e = .returned (.bool true) ∧ Below w.heap.size w w' := by
  have hf := fun W => first_c hpd hen hrt hwt hef W
  rcases PR_md k with h | h
  · exact tmodes_u hp hf hrt hef k h w
  · rcases mpB_is ((PR k).s 0) with hz | hz
    · cases hb : ((PR k).s 0).getLsbD 17 with
      | true => exact tmodes_m0t hp hf hrt hef k h hz hb w
      | false => exact tmodes_m0f hp hf hrt hef k h hz hb w
    · cases hb : ((PR k).s 0).getLsbD 17 with
      | true => exact tmodes_m3t hp hf hrt hef k h hz hb w
      | false => exact tmodes_m3f hp hf hrt hef k h hz hb w
end Go.Proofs.Ytnejdfkmnblfeaa
