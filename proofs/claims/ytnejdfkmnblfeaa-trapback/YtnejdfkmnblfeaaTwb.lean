/-
  TrapBack: its walk.
-/
import Derived.Test.YtnejdfkmnblfeaaTws
namespace Go.Proofs.Ytnejdfkmnblfeaa
set_option linter.unusedVariables false
open Go.ChangeShapes Go.WideShapes Go.ChangeAt Go.RowKit Go.Deep
theorem bk_pc (k : Cp) (c t : BitVec 64) : (BKc k c t).pc = (PR k).pc := by rw [bk_eq]; rfl
theorem bk_7 (k : Cp) (c t : BitVec 64) : ((BKc k c t).s 0).getLsbD 7 = true := by
  rw [bk_s0, rtS_bit _ 7 (by decide), if_neg (by omega), if_neg (by omega), if_pos rfl]
theorem bk_17 (k : Cp) (c t : BitVec 64) (h : (PR k).md = 3) : ((BKc k c t).s 0).getLsbD 17 = ((PR k).s 0).getLsbD 17 := by
  rw [bk_s0, rtS_bit _ 17 (by decide), mp_en, if_neg (by rw [h]; omega), if_neg (by omega), if_neg (by omega), if_neg (by omega), enS_bit _ _ 17 (by decide), if_neg (by omega), if_neg (by omega), if_neg (by omega)]
/-- What else the two do not speak of is as it was. -/
theorem bk_back (k : Cp) (c t : BitVec 64) : { BKc k c t with s := upd (upd (upd (upd (BKc k c t).s 0 ((PR k).s 0)) 7 ((PR k).s 7)) 8 ((PR k).s 8)) 9 ((PR k).s 9), wt := (PR k).wt, rv := (PR k).rv, ra := (PR k).ra, rs := (PR k).rs } = PR k := by
  have hs : upd (upd (upd (upd (BKc k c t).s 0 ((PR k).s 0)) 7 ((PR k).s 7)) 8 ((PR k).s 8)) 9 ((PR k).s 9) = (PR k).s := by
    rw [bk_eq]
    funext j
    unfold upd
    by_cases h9 : j = 9
    · subst h9; rfl
    · by_cases h8 : j = 8
      · subst h8; rfl
      · by_cases h7 : j = 7
        · subst h7; rfl
        · by_cases h0 : j = 0
          · subst h0; rfl
          · rw [if_neg h9, if_neg h8, if_neg h7, if_neg h0]
            show upd (upd (upd (upd (upd (PR k).s 7 _) 8 _) 9 _) 0 _) 0 _ j = _
            unfold upd
            rw [if_neg h0, if_neg h0, if_neg h9, if_neg h8, if_neg h7]
  rw [hs]
  have h1 := bk_md k c t
  have h2 := bk_pc k c t
  have h3 : (BKc k c t).x = (PR k).x := by rw [bk_eq]; rfl
  have h4 : (BKc k c t).c = (PR k).c := by rw [bk_eq]; rfl
  have h5 : (BKc k c t).a = (PR k).a := by rw [bk_eq]; rfl
  generalize BKc k c t = O at h1 h2 h3 h4 h5
  generalize PR k = P at h1 h2 h3 h4 h5
  cases O; cases P
  simp only at h1 h2 h3 h4 h5
  subst h1 h2 h3 h4 h5
  rfl
set_option maxRecDepth 100000 in
set_option maxHeartbeats 4000000 in
theorem tback_0 (hp : CPr) (hf : ∀ W, Calls Try.prog 11 #[] W fun e w' => e = .returned (.bool true) ∧ Below W.heap.size W w') (hen : TEn) (hrt : TRt) (k : Cp) (cause tval : BitVec 64) (hmd : (PR k).md = 0) (w : World) :
    Calls Try.prog 6 #[.agg (cpc k), .int .u64 (n64 cause), .int .u64 (n64 tval)] w fun e w' => e = .returned (.bool true) ∧ Below w.heap.size w w' := by
  have hz := zero_cpu
  obtain ⟨W0, hW0, r0, b0, s0⟩ := start1 w (cpc k) 31
  clear s0
  have HFi : Hid (∀ W, Calls Try.prog 11 #[] W fun e w' => e = .returned (.bool true) ∧ Below W.heap.size W w') := hf
  have HPr : Hid (∀ W, Calls Try.prog 12 #[.agg (cpc k)] W fun e w' => e = .returned (.agg (cpc (PR k))) ∧ Below W.heap.size W w') := hp k
  have HEn : Hid (∀ W, Calls Try.prog 13 #[.agg (cpc (PR k)), .int .u64 (n64 cause), .int .u64 (n64 tval)] W fun e w' => e = .returned (.agg (cpc (ENc k cause tval))) ∧ Below W.heap.size W w') := fun W => by have h := hen (PR k) cause tval W; rw [EN_PR] at h; exact h
  have HRt : Hid (∀ W, Calls Try.prog 14 #[.agg (cpc (ENc k cause tval))] W fun e w' => e = .returned (.tuple #[.agg (cpc (BKc k cause tval)), .bool true]) ∧ Below W.heap.size W w') := fun W => by have h := hrt (ENc k cause tval) W; rw [bk_ok] at h; exact h
  have HS1 : Hid (∀ W, Calls Try.prog 18 #[.agg (cpc (ENc k cause tval)), .int .u64 3] W fun e w' => e = .returned (.bool false) ∧ Below W.heap.size W w') := fun W => by have h := status_c (ENc k cause tval) 3 (by decide) W; rw [en_3] at h; exact h
  have HSa : Hid (∀ W, Calls Try.prog 18 #[.agg (cpc (BKc k cause tval)), .int .u64 3] W fun e w' => e = .returned (.bool (((PR k).s 0).getLsbD 3)) ∧ Below W.heap.size W w') := fun W => by have h := status_c (BKc k cause tval) 3 (by decide) W; rw [bk_3] at h; exact h
  have HSb : Hid (∀ W, Calls Try.prog 18 #[.agg (cpc (PR k)), .int .u64 3] W fun e w' => e = .returned (.bool (((PR k).s 0).getLsbD 3)) ∧ Below W.heap.size W w') := status_c (PR k) 3 (by decide)
  have HSc : Hid (∀ W, Calls Try.prog 18 #[.agg (cpc (BKc k cause tval)), .int .u64 7] W fun e w' => e = .returned (.bool true) ∧ Below W.heap.size W w') := fun W => by have h := status_c (BKc k cause tval) 7 (by decide) W; rw [bk_7] at h; exact h
  have FA7 : Hid ((ENc k cause tval).s 7 = (PR k).pc) := rfl
  have FA8 : Hid ((ENc k cause tval).s 8 = cause) := rfl
  have FA9 : Hid ((ENc k cause tval).s 9 = tval) := rfl
  have FAm : Hid ((ENc k cause tval).md = 3 ∧ (ENc k cause tval).wt = false ∧ (ENc k cause tval).rv = false ∧ (ENc k cause tval).ra = 0#64 ∧ (ENc k cause tval).rs = 0) := ⟨rfl, rfl, rfl, rfl, rfl⟩
  have FOp : Hid ((BKc k cause tval).pc = (PR k).pc) := bk_pc k cause tval
  have FOm : Hid ((BKc k cause tval).md = 0) := (bk_md k cause tval).trans hmd
  have FPm : Hid ((PR k).md = 0) := hmd
  have FB : Hid ({ BKc k cause tval with s := upd (upd (upd (upd (BKc k cause tval).s 0 ((PR k).s 0)) 7 ((PR k).s 7)) 8 ((PR k).s 8)) 9 ((PR k).s 9), wt := (PR k).wt, rv := (PR k).rv, ra := (PR k).ra, rs := (PR k).rs } = PR k) := bk_back k cause tval
  clear hmd hp hf hen hrt
  generalize ((PR k).s 0).getLsbD 3 = z3 at HSa HSb
  generalize BKc k cause tval = O at HRt HSa HSc FOp FOm FB
  generalize ENc k cause tval = A at HEn HRt HS1 FA7 FA8 FA9 FAm
  generalize PR k = P at HPr HEn HSb FA7 FOp FPm FB
  have e3 : (z3 != z3) = false := by simp
  have hzr : ∀ W, (zeroValue 29).run Try.prog W = .ok (.agg #[.bool false, .int .u64 0, .int .i64 0]) W := fun W => by kernel_rfl
  have heqR : ∀ W, (Op.equalIn 10000 29 (.agg #[.bool false, .int .u64 0, .int .i64 0]) (.agg #[.bool false, .int .u64 0, .int .i64 0])).run Try.prog W = .ok true W := fun W => by kernel_rfl
  have heq : ∀ W, (Op.equalIn 10000 31 (.agg (cpc P)) (.agg (cpc P))).run Try.prog W = .ok true W := fun W => eq_cpu W _
  have S0 : Hid (Row W0 w.heap.size (cpc k) 31) := r0.out
  have BB : Hid (Below w.heap.size w W0) := b0.out
  clear r0 b0
  go_enter Try.func6, Try.ntmps6
  go_upto_region 1 with fail
  clear hW0
  go_upto_region 2 with (first | (refine wpList_load_row (by rfl) _ _ (by rfl) _ (by rfl) 31 _ (0, 0) _ S0.out Try.underlying31 (by rfl) (info_cpu _) ?_) | (go_at_call 12; refine (HPr.out _).mono ?_; rintro e w1 ⟨rfl, hb⟩; have Bw1 : Hid (Below W0.heap.size W0 w1) := hb; clear hb) | (refine wpList_store_row (by rfl) _ _ _ (by rfl) (by rfl) _ _ _ (by rfl) (by rfl) (S0.out.cb Bw1.out) (info_cpu _) (by rw [cpc_size, cpc_size]) (cpc_ones _) ?_))
  refine go_onP (motive := fun W => Code.wp _ _ _ _ W) (Q := fun W => Row W w.heap.size (cpc P) 31 ∧ Below w.heap.size w W) ⟨setRow_heap _ _ _ _ _ _ (S0.out.cb Bw1.out), below_row (BB.out.trans (Bw1.out.mono BB.out.size)) (Nat.le_refl _) _⟩ ?_
  clear S0 BB Bw1 HPr
  rintro V0 ⟨q0, c0⟩
  have S0 : Hid (Row V0 w.heap.size (cpc P) 31) := q0
  have BB : Hid (Below w.heap.size w V0) := c0
  clear q0 c0
  go_upto_region 3 with (first | (refine wpList_load_row (by rfl) _ _ (by rfl) _ (by rfl) 31 _ (0, 0) _ S0.out Try.underlying31 (by rfl) (info_cpu _) ?_) | (go_at_call 13; refine (HEn.out _).mono ?_; rintro e w2 ⟨rfl, hb⟩; have Bw2 : Hid (Below V0.heap.size V0 w2) := hb; clear hb) | (refine wpList_store_last (by rfl) _ _ _ (by rfl) (by rfl) _ _ _ (by rfl) (by rfl) (by rfl) (info_cpu _) (by rw [cpc_size, cpc_size]) (cpc_ones _) ?_))
  refine go_onP (motive := fun W => Code.wp _ _ _ _ W) (Q := fun W => Row W w.heap.size (cpc P) 31 ∧ Row W w2.heap.size (cpc A) 31 ∧ Below w.heap.size w W ∧ w.heap.size < w2.heap.size) ⟨S0.out.ca Bw2.out _, Row.new w2 (cpc A) 31, (BB.out.trans (Bw2.out.mono BB.out.size)).alloc (Nat.le_trans BB.out.size Bw2.out.size) _, Nat.lt_of_lt_of_le S0.out.lt Bw2.out.size⟩ ?_
  clear S0 BB Bw2 HEn
  generalize w2.heap.size = gA
  rintro V1 ⟨q0, q1, c0, l0⟩
  have S0 : Hid (Row V1 w.heap.size (cpc P) 31) := q0
  have S1 : Hid (Row V1 gA (cpc A) 31) := q1
  have BB : Hid (Below w.heap.size w V1) := c0
  have LA : Hid (w.heap.size < gA) := l0
  clear q0 q1 c0 l0
  go_upto_region 4 with (first | (refine wpList_load_row (by rfl) _ _ (by rfl) _ (by rfl) 31 _ (0, 0) _ S1.out Try.underlying31 (by rfl) (info_cpu _) ?_) | (go_at_call 14; refine (HRt.out _).mono ?_; rintro e w3 ⟨rfl, hb⟩; have Bw3 : Hid (Below V1.heap.size V1 w3) := hb; clear hb) | (refine wpList_store_last (by rfl) _ _ _ (by rfl) (by rfl) _ _ _ (by rfl) (by rfl) (by rfl) (info_cpu _) (by rw [cpc_size, cpc_size]) (cpc_ones _) ?_))
  refine go_onP (motive := fun W => Code.wp _ _ _ _ W) (Q := fun W => Row W w.heap.size (cpc P) 31 ∧ Row W gA (cpc A) 31 ∧ Row W w3.heap.size (cpc O) 31 ∧ Below w.heap.size w W ∧ w.heap.size < w3.heap.size) ⟨S0.out.ca Bw3.out _, S1.out.ca Bw3.out _, Row.new w3 (cpc O) 31, (BB.out.trans (Bw3.out.mono BB.out.size)).alloc (Nat.le_trans BB.out.size Bw3.out.size) _, Nat.lt_of_lt_of_le S0.out.lt Bw3.out.size⟩ ?_
  clear S0 S1 BB Bw3 HRt hz
  generalize w3.heap.size = gO
  rintro V2 ⟨q0, q1, q2, c0, l0⟩
  have S0 : Hid (Row V2 w.heap.size (cpc P) 31) := q0
  have S1 : Hid (Row V2 gA (cpc A) 31) := q1
  have S2 : Hid (Row V2 gO (cpc O) 31) := q2
  have BB : Hid (Below w.heap.size w V2) := c0
  have LO : Hid (w.heap.size < gO) := l0
  clear q0 q1 q2 c0 l0
  have NA : Hid (∀ w' : World, Below V2.heap.size V2 w' → w'.cell? ⟨gA, 33, none⟩ = some (.int .i64 3) ∧ w'.cell? ⟨gA, 42, none⟩ = some (.int .u64 (n64 P.pc)) ∧ w'.cell? ⟨w.heap.size, 0, none⟩ = some (.int .u64 (n64 P.pc)) ∧ w'.cell? ⟨gA, 43, none⟩ = some (.int .u64 (n64 cause)) ∧ w'.cell? ⟨gA, 44, none⟩ = some (.int .u64 (n64 tval)) ∧ w'.cell? ⟨gA, 34, none⟩ = some (.bool false) ∧ w'.cell? ⟨gA, 79, none⟩ = some (.bool false) ∧ w'.cell? ⟨gA, 80, none⟩ = some (.int .u64 0) ∧ w'.cell? ⟨gA, 81, none⟩ = some (.int .i64 0) ∧ Row w' gA (cpc A) 31) := fun w' h => by
    have a := (S1.out.cb h)
    have p := (S0.out.cb h)
    obtain ⟨m1, m2, m3, m4, m5⟩ := FAm.out
    refine ⟨?_, ?_, p.cls.pc, ?_, ?_, ?_, ?_, ?_, ?_, a⟩
    · rw [← m1]; exact a.cls.md
    · rw [← FA7.out]; exact a.cls.s7
    · rw [← FA8.out]; exact a.cls.s8
    · rw [← FA9.out]; exact a.cls.s9
    · rw [← m2]; exact a.cls.wt
    · rw [← m3]; exact a.cls.rv
    · have := a.cls.ra; rw [m4] at this; exact this
    · rw [← m5]; exact a.cls.rs
  clear FA7 FA8 FA9 FAm
  have ne1 : (n64 P.pc != n64 P.pc) = false := by simp
  have ne2 : (n64 cause != n64 cause) = false := by simp
  have ne3 : (n64 tval != n64 tval) = false := by simp
  go_upto_region 6 with (first | (go_at_call 11; refine (HFi.out _).mono ?_; rintro e w4 ⟨rfl, hb⟩; obtain ⟨k1, k2, k3, k4, k5, k6, k7, k8, k9, T1⟩ := NA.out w4 hb; have T4 : Hid (Row w4 gA (cpc A) 31) := T1; have Bw4 : Hid (Below V2.heap.size V2 w4) := hb; clear hb T1 HFi) | (refine wpList_load_rowG (by rfl) _ _ (by rfl) _ (by rfl) 31 _ (0, 0) _ T4.out Try.underlying31 (by rfl) (info_cpu _) ?_) | (go_at_call 18; refine (HS1.out _).mono ?_; rintro e w5 ⟨rfl, hb⟩; have Bw5 : Hid (Below V2.heap.size V2 w5) := Bw4.out.trans (hb.mono Bw4.out.size); obtain ⟨_, _, _, _, _, n6, n7, n8, n9, _⟩ := NA.out w5 Bw5.out; clear hb HS1))
  refine go_onP (motive := fun W => Code.wp _ _ _ _ W) (Q := fun W => Row W w.heap.size (cpc P) 31 ∧ Row W gO (cpc O) 31 ∧ Below w.heap.size w W) ⟨S0.out.cb Bw5.out, S2.out.cb Bw5.out, BB.out.trans (Bw5.out.mono BB.out.size)⟩ ?_
  clear S0 S1 S2 BB Bw4 Bw5 T4 NA k1 k2 k3 k4 k5 k6 k7 k8 k9 n6 n7 n8 n9 heqR hzr ne2 ne3 LA
  rintro V3 ⟨q0, q2, c0⟩
  have S0 : Hid (Row V3 w.heap.size (cpc P) 31) := q0
  have S2 : Hid (Row V3 gO (cpc O) 31) := q2
  have BB : Hid (Below w.heap.size w V3) := c0
  have c1 : V3.cell? ⟨gO, 0, none⟩ = some (.int .u64 (n64 P.pc)) := by rw [← FOp.out]; exact q2.cls.pc
  have c2 : V3.cell? ⟨gO, 33, none⟩ = some (.int .i64 0) := by rw [← FOm.out]; exact q2.cls.md
  have c3 : V3.cell? ⟨w.heap.size, 33, none⟩ = some (.int .i64 0) := by rw [← FPm.out]; exact q0.cls.md
  have l1 : ∀ x : Later V3, x.1.cell? ⟨gO, 0, none⟩ = some (.int .u64 (n64 P.pc)) := later_at q2.lt c1
  have l2 : ∀ x : Later V3, x.1.cell? ⟨gO, 33, none⟩ = some (.int .i64 0) := later_at q2.lt c2
  have l3 : ∀ x : Later V3, x.1.cell? ⟨w.heap.size, 33, none⟩ = some (.int .i64 0) := later_at q0.lt c3
  have l4 : ∀ x : Later V3, x.1.cell? ⟨w.heap.size, 0, none⟩ = some (.int .u64 (n64 P.pc)) := later_at q0.lt q0.cls.pc
  have LS0 : Hid (∀ j v, (cpc P)[j]? = some v → V3.cell? ⟨w.heap.size, 0 + j, none⟩ = some v) := q0.cpu.agg
  have LS2 : Hid (∀ j v, (cpc O)[j]? = some v → V3.cell? ⟨gO, 0 + j, none⟩ = some v) := q2.cpu.agg
  clear q0 q2 c0 c1 c2 c3
  have hne := later_nonempty V3
  refine wp_region_later (x0 := Later.start V3) (by kernel_rfl) (by kernel_rfl) ?_
  iterate 13 (go_big_quiet_step (fail))
  (refine BigFrame.wpQuiet_want (by rfl) fun K hK => ?_; refine quiet_load_agg 31 _ (by rfl) gO 0 (by rfl) (cpc O) _ S2.out.lt LS2.out Try.underlying31 (by rfl) (info_cpu _) (hK _ ?_); clear hK K; simp only [Act.put, List.setIfInBounds_toArray, List.set_cons_succ, List.set_cons_zero])
  go_big_quiet_step (first | (go_at_call 18; exact calls_later (HSa.out _)))
  (refine BigFrame.wpQuiet_want (by rfl) fun K hK => ?_; refine quiet_load_agg 31 _ (by rfl) w.heap.size 0 (by rfl) (cpc P) _ S0.out.lt LS0.out Try.underlying31 (by rfl) (info_cpu _) (hK _ ?_); clear hK K; simp only [Act.put, List.setIfInBounds_toArray, List.set_cons_succ, List.set_cons_zero])
  go_big_quiet_step (first | (go_at_call 18; exact calls_later (HSb.out _)))
  iterate 3 (go_big_quiet_step (fail))
  (refine BigFrame.wpQuiet_want (by rfl) fun K hK => ?_; refine quiet_load_agg 31 _ (by rfl) gO 0 (by rfl) (cpc O) _ S2.out.lt LS2.out Try.underlying31 (by rfl) (info_cpu _) (hK _ ?_); clear hK K; simp only [Act.put, List.setIfInBounds_toArray, List.set_cons_succ, List.set_cons_zero])
  go_big_quiet_step (first | (go_at_call 18; exact calls_later (HSc.out _)))
  iterate 7 (go_big_quiet_step (fail))
  iterate 7 (go_big_quiet_step (fail))
  refine wpQuiet_nil ?_
  rintro w' ⟨x9, rfl⟩
  go_upto_region 8 with fail
  refine go_onP (motive := fun W => Code.wp _ _ _ _ W) (Q := fun W => Row W w.heap.size (cpc P) 31 ∧ Row W gO (cpc O) 31 ∧ Below w.heap.size w W) ⟨S0.out.cb x9.below, S2.out.cb x9.below, BB.out.trans (x9.below.mono BB.out.size)⟩ ?_
  clear S0 S2 BB l1 l2 l3 l4 LS0 LS2 hne HSa HSb HSc ne1
  rintro V4 ⟨q0, q2, c0⟩
  have S0 : Hid (Row V4 w.heap.size (cpc P) 31) := q0
  have S2 : Hid (Row V4 gO (cpc O) 31) := q2
  have BB : Hid (Below w.heap.size w V4) := c0
  have f2 := q2.froz
  have p0 := q0.cls.s0
  have p7 := q0.cls.s7
  have p8 := q0.cls.s8
  have p9 := q0.cls.s9
  have pw := q0.cls.wt
  have pv := q0.cls.rv
  have pa := q0.cls.ra
  have ps := q0.cls.rs
  have o0 := q2.cls.s0
  have o7 := q2.cls.s7
  have o8 := q2.cls.s8
  have o9 := q2.cls.s9
  have ow := q2.cls.wt
  have ov := q2.cls.rv
  have oa := q2.cls.ra
  have os := q2.cls.rs
  clear q0 q2 c0
  go_upto_region 14 with fail
  have Q := (((((((S2.out.put (i := 35) (.int .u64 (n64 (P.s 0)))).put (i := 42) (.int .u64 (n64 (P.s 7)))).put (i := 43) (.int .u64 (n64 (P.s 8)))).put (i := 44) (.int .u64 (n64 (P.s 9)))).put (i := 34) (.bool P.wt)).put (i := 79) (.bool P.rv)).put (i := 80) (.int .u64 (n64 P.ra))).put (i := 81) (.int .i64 P.rs)
  rw [cpc_s0, cpc_s7, cpc_s8, cpc_s9, cpc_wt, cpc_rv, cpc_ra, cpc_rs] at Q
  refine go_onP (motive := fun W => Code.wp _ _ _ _ W) (Q := fun W => Row W w.heap.size (cpc P) 31 ∧ Row W gO (cpc P) 31 ∧ Below w.heap.size w W) ⟨(Row.other (Row.other (Row.other (Row.other (Row.other (Row.other (Row.other (Row.other S0.out (by have := LO.out; omega) _) (by have := LO.out; omega) _) (by have := LO.out; omega) _) (by have := LO.out; omega) _) (by have := LO.out; omega) _) (by have := LO.out; omega) _) (by have := LO.out; omega) _) (by have := LO.out; omega) _), row_cast Q (congrArg cpc FB.out), (below_put (below_put (below_put (below_put (below_put (below_put (below_put (below_put BB.out (Nat.le_of_lt LO.out) _) (Nat.le_of_lt LO.out) _) (Nat.le_of_lt LO.out) _) (Nat.le_of_lt LO.out) _) (Nat.le_of_lt LO.out) _) (Nat.le_of_lt LO.out) _) (Nat.le_of_lt LO.out) _) (Nat.le_of_lt LO.out) _)⟩ ?_
  clear Q S0 S2 BB f2 p0 p7 p8 p9 pw pv pa ps o0 o7 o8 o9 ow ov oa os
  rintro V5 ⟨q0, q2, c0⟩
  have S0 : Hid (Row V5 w.heap.size (cpc P) 31) := q0
  have S2 : Hid (Row V5 gO (cpc P) 31) := q2
  have BB : Hid (Below w.heap.size w V5) := c0
  clear q0 q2 c0
  go_wp2_with (first | (refine wpList_load_row (by rfl) _ _ (by rfl) _ (by rfl) 31 _ (0, 0) _ S2.out Try.underlying31 (by rfl) (info_cpu _) ?_) | (refine wpList_load_row (by rfl) _ _ (by rfl) _ (by rfl) 31 _ (0, 0) _ S0.out Try.underlying31 (by rfl) (info_cpu _) ?_))
  go_ret
  exact ⟨rfl, BB.out⟩
set_option maxRecDepth 100000 in
set_option maxHeartbeats 4000000 in
theorem tback_3 (hp : CPr) (hf : ∀ W, Calls Try.prog 11 #[] W fun e w' => e = .returned (.bool true) ∧ Below W.heap.size W w') (hen : TEn) (hrt : TRt) (k : Cp) (cause tval : BitVec 64) (hmd : (PR k).md = 3) (w : World) :
    Calls Try.prog 6 #[.agg (cpc k), .int .u64 (n64 cause), .int .u64 (n64 tval)] w fun e w' => e = .returned (.bool true) ∧ Below w.heap.size w w' := by
  have hz := zero_cpu
  obtain ⟨W0, hW0, r0, b0, s0⟩ := start1 w (cpc k) 31
  clear s0
  have HFi : Hid (∀ W, Calls Try.prog 11 #[] W fun e w' => e = .returned (.bool true) ∧ Below W.heap.size W w') := hf
  have HPr : Hid (∀ W, Calls Try.prog 12 #[.agg (cpc k)] W fun e w' => e = .returned (.agg (cpc (PR k))) ∧ Below W.heap.size W w') := hp k
  have HEn : Hid (∀ W, Calls Try.prog 13 #[.agg (cpc (PR k)), .int .u64 (n64 cause), .int .u64 (n64 tval)] W fun e w' => e = .returned (.agg (cpc (ENc k cause tval))) ∧ Below W.heap.size W w') := fun W => by have h := hen (PR k) cause tval W; rw [EN_PR] at h; exact h
  have HRt : Hid (∀ W, Calls Try.prog 14 #[.agg (cpc (ENc k cause tval))] W fun e w' => e = .returned (.tuple #[.agg (cpc (BKc k cause tval)), .bool true]) ∧ Below W.heap.size W w') := fun W => by have h := hrt (ENc k cause tval) W; rw [bk_ok] at h; exact h
  have HS1 : Hid (∀ W, Calls Try.prog 18 #[.agg (cpc (ENc k cause tval)), .int .u64 3] W fun e w' => e = .returned (.bool false) ∧ Below W.heap.size W w') := fun W => by have h := status_c (ENc k cause tval) 3 (by decide) W; rw [en_3] at h; exact h
  have HSa : Hid (∀ W, Calls Try.prog 18 #[.agg (cpc (BKc k cause tval)), .int .u64 3] W fun e w' => e = .returned (.bool (((PR k).s 0).getLsbD 3)) ∧ Below W.heap.size W w') := fun W => by have h := status_c (BKc k cause tval) 3 (by decide) W; rw [bk_3] at h; exact h
  have HSb : Hid (∀ W, Calls Try.prog 18 #[.agg (cpc (PR k)), .int .u64 3] W fun e w' => e = .returned (.bool (((PR k).s 0).getLsbD 3)) ∧ Below W.heap.size W w') := status_c (PR k) 3 (by decide)
  have HSc : Hid (∀ W, Calls Try.prog 18 #[.agg (cpc (BKc k cause tval)), .int .u64 7] W fun e w' => e = .returned (.bool true) ∧ Below W.heap.size W w') := fun W => by have h := status_c (BKc k cause tval) 7 (by decide) W; rw [bk_7] at h; exact h
  have HSd : Hid (∀ W, Calls Try.prog 18 #[.agg (cpc (BKc k cause tval)), .int .u64 17] W fun e w' => e = .returned (.bool (((PR k).s 0).getLsbD 17)) ∧ Below W.heap.size W w') := fun W => by have h := status_c (BKc k cause tval) 17 (by decide) W; rw [bk_17 k cause tval hmd] at h; exact h
  have HSe : Hid (∀ W, Calls Try.prog 18 #[.agg (cpc (PR k)), .int .u64 17] W fun e w' => e = .returned (.bool (((PR k).s 0).getLsbD 17)) ∧ Below W.heap.size W w') := status_c (PR k) 17 (by decide)
  have FA7 : Hid ((ENc k cause tval).s 7 = (PR k).pc) := rfl
  have FA8 : Hid ((ENc k cause tval).s 8 = cause) := rfl
  have FA9 : Hid ((ENc k cause tval).s 9 = tval) := rfl
  have FAm : Hid ((ENc k cause tval).md = 3 ∧ (ENc k cause tval).wt = false ∧ (ENc k cause tval).rv = false ∧ (ENc k cause tval).ra = 0#64 ∧ (ENc k cause tval).rs = 0) := ⟨rfl, rfl, rfl, rfl, rfl⟩
  have FOp : Hid ((BKc k cause tval).pc = (PR k).pc) := bk_pc k cause tval
  have FOm : Hid ((BKc k cause tval).md = 3) := (bk_md k cause tval).trans hmd
  have FPm : Hid ((PR k).md = 3) := hmd
  have FB : Hid ({ BKc k cause tval with s := upd (upd (upd (upd (BKc k cause tval).s 0 ((PR k).s 0)) 7 ((PR k).s 7)) 8 ((PR k).s 8)) 9 ((PR k).s 9), wt := (PR k).wt, rv := (PR k).rv, ra := (PR k).ra, rs := (PR k).rs } = PR k) := bk_back k cause tval
  clear hmd hp hf hen hrt
  generalize ((PR k).s 0).getLsbD 3 = z3 at HSa HSb
  generalize ((PR k).s 0).getLsbD 17 = z17 at HSd HSe
  generalize BKc k cause tval = O at HRt HSa HSc HSd FOp FOm FB
  generalize ENc k cause tval = A at HEn HRt HS1 FA7 FA8 FA9 FAm
  generalize PR k = P at HPr HEn HSb HSe FA7 FOp FPm FB
  have e3 : (z3 != z3) = false := by simp
  have e17 : (z17 != z17) = false := by simp
  have hzr : ∀ W, (zeroValue 29).run Try.prog W = .ok (.agg #[.bool false, .int .u64 0, .int .i64 0]) W := fun W => by kernel_rfl
  have heqR : ∀ W, (Op.equalIn 10000 29 (.agg #[.bool false, .int .u64 0, .int .i64 0]) (.agg #[.bool false, .int .u64 0, .int .i64 0])).run Try.prog W = .ok true W := fun W => by kernel_rfl
  have heq : ∀ W, (Op.equalIn 10000 31 (.agg (cpc P)) (.agg (cpc P))).run Try.prog W = .ok true W := fun W => eq_cpu W _
  have S0 : Hid (Row W0 w.heap.size (cpc k) 31) := r0.out
  have BB : Hid (Below w.heap.size w W0) := b0.out
  clear r0 b0
  go_enter Try.func6, Try.ntmps6
  go_upto_region 1 with fail
  clear hW0
  go_upto_region 2 with (first | (refine wpList_load_row (by rfl) _ _ (by rfl) _ (by rfl) 31 _ (0, 0) _ S0.out Try.underlying31 (by rfl) (info_cpu _) ?_) | (go_at_call 12; refine (HPr.out _).mono ?_; rintro e w1 ⟨rfl, hb⟩; have Bw1 : Hid (Below W0.heap.size W0 w1) := hb; clear hb) | (refine wpList_store_row (by rfl) _ _ _ (by rfl) (by rfl) _ _ _ (by rfl) (by rfl) (S0.out.cb Bw1.out) (info_cpu _) (by rw [cpc_size, cpc_size]) (cpc_ones _) ?_))
  refine go_onP (motive := fun W => Code.wp _ _ _ _ W) (Q := fun W => Row W w.heap.size (cpc P) 31 ∧ Below w.heap.size w W) ⟨setRow_heap _ _ _ _ _ _ (S0.out.cb Bw1.out), below_row (BB.out.trans (Bw1.out.mono BB.out.size)) (Nat.le_refl _) _⟩ ?_
  clear S0 BB Bw1 HPr
  rintro V0 ⟨q0, c0⟩
  have S0 : Hid (Row V0 w.heap.size (cpc P) 31) := q0
  have BB : Hid (Below w.heap.size w V0) := c0
  clear q0 c0
  go_upto_region 3 with (first | (refine wpList_load_row (by rfl) _ _ (by rfl) _ (by rfl) 31 _ (0, 0) _ S0.out Try.underlying31 (by rfl) (info_cpu _) ?_) | (go_at_call 13; refine (HEn.out _).mono ?_; rintro e w2 ⟨rfl, hb⟩; have Bw2 : Hid (Below V0.heap.size V0 w2) := hb; clear hb) | (refine wpList_store_last (by rfl) _ _ _ (by rfl) (by rfl) _ _ _ (by rfl) (by rfl) (by rfl) (info_cpu _) (by rw [cpc_size, cpc_size]) (cpc_ones _) ?_))
  refine go_onP (motive := fun W => Code.wp _ _ _ _ W) (Q := fun W => Row W w.heap.size (cpc P) 31 ∧ Row W w2.heap.size (cpc A) 31 ∧ Below w.heap.size w W ∧ w.heap.size < w2.heap.size) ⟨S0.out.ca Bw2.out _, Row.new w2 (cpc A) 31, (BB.out.trans (Bw2.out.mono BB.out.size)).alloc (Nat.le_trans BB.out.size Bw2.out.size) _, Nat.lt_of_lt_of_le S0.out.lt Bw2.out.size⟩ ?_
  clear S0 BB Bw2 HEn
  generalize w2.heap.size = gA
  rintro V1 ⟨q0, q1, c0, l0⟩
  have S0 : Hid (Row V1 w.heap.size (cpc P) 31) := q0
  have S1 : Hid (Row V1 gA (cpc A) 31) := q1
  have BB : Hid (Below w.heap.size w V1) := c0
  have LA : Hid (w.heap.size < gA) := l0
  clear q0 q1 c0 l0
  go_upto_region 4 with (first | (refine wpList_load_row (by rfl) _ _ (by rfl) _ (by rfl) 31 _ (0, 0) _ S1.out Try.underlying31 (by rfl) (info_cpu _) ?_) | (go_at_call 14; refine (HRt.out _).mono ?_; rintro e w3 ⟨rfl, hb⟩; have Bw3 : Hid (Below V1.heap.size V1 w3) := hb; clear hb) | (refine wpList_store_last (by rfl) _ _ _ (by rfl) (by rfl) _ _ _ (by rfl) (by rfl) (by rfl) (info_cpu _) (by rw [cpc_size, cpc_size]) (cpc_ones _) ?_))
  refine go_onP (motive := fun W => Code.wp _ _ _ _ W) (Q := fun W => Row W w.heap.size (cpc P) 31 ∧ Row W gA (cpc A) 31 ∧ Row W w3.heap.size (cpc O) 31 ∧ Below w.heap.size w W ∧ w.heap.size < w3.heap.size) ⟨S0.out.ca Bw3.out _, S1.out.ca Bw3.out _, Row.new w3 (cpc O) 31, (BB.out.trans (Bw3.out.mono BB.out.size)).alloc (Nat.le_trans BB.out.size Bw3.out.size) _, Nat.lt_of_lt_of_le S0.out.lt Bw3.out.size⟩ ?_
  clear S0 S1 BB Bw3 HRt hz
  generalize w3.heap.size = gO
  rintro V2 ⟨q0, q1, q2, c0, l0⟩
  have S0 : Hid (Row V2 w.heap.size (cpc P) 31) := q0
  have S1 : Hid (Row V2 gA (cpc A) 31) := q1
  have S2 : Hid (Row V2 gO (cpc O) 31) := q2
  have BB : Hid (Below w.heap.size w V2) := c0
  have LO : Hid (w.heap.size < gO) := l0
  clear q0 q1 q2 c0 l0
  have NA : Hid (∀ w' : World, Below V2.heap.size V2 w' → w'.cell? ⟨gA, 33, none⟩ = some (.int .i64 3) ∧ w'.cell? ⟨gA, 42, none⟩ = some (.int .u64 (n64 P.pc)) ∧ w'.cell? ⟨w.heap.size, 0, none⟩ = some (.int .u64 (n64 P.pc)) ∧ w'.cell? ⟨gA, 43, none⟩ = some (.int .u64 (n64 cause)) ∧ w'.cell? ⟨gA, 44, none⟩ = some (.int .u64 (n64 tval)) ∧ w'.cell? ⟨gA, 34, none⟩ = some (.bool false) ∧ w'.cell? ⟨gA, 79, none⟩ = some (.bool false) ∧ w'.cell? ⟨gA, 80, none⟩ = some (.int .u64 0) ∧ w'.cell? ⟨gA, 81, none⟩ = some (.int .i64 0) ∧ Row w' gA (cpc A) 31) := fun w' h => by
    have a := (S1.out.cb h)
    have p := (S0.out.cb h)
    obtain ⟨m1, m2, m3, m4, m5⟩ := FAm.out
    refine ⟨?_, ?_, p.cls.pc, ?_, ?_, ?_, ?_, ?_, ?_, a⟩
    · rw [← m1]; exact a.cls.md
    · rw [← FA7.out]; exact a.cls.s7
    · rw [← FA8.out]; exact a.cls.s8
    · rw [← FA9.out]; exact a.cls.s9
    · rw [← m2]; exact a.cls.wt
    · rw [← m3]; exact a.cls.rv
    · have := a.cls.ra; rw [m4] at this; exact this
    · rw [← m5]; exact a.cls.rs
  clear FA7 FA8 FA9 FAm
  have ne1 : (n64 P.pc != n64 P.pc) = false := by simp
  have ne2 : (n64 cause != n64 cause) = false := by simp
  have ne3 : (n64 tval != n64 tval) = false := by simp
  go_upto_region 6 with (first | (go_at_call 11; refine (HFi.out _).mono ?_; rintro e w4 ⟨rfl, hb⟩; obtain ⟨k1, k2, k3, k4, k5, k6, k7, k8, k9, T1⟩ := NA.out w4 hb; have T4 : Hid (Row w4 gA (cpc A) 31) := T1; have Bw4 : Hid (Below V2.heap.size V2 w4) := hb; clear hb T1 HFi) | (refine wpList_load_rowG (by rfl) _ _ (by rfl) _ (by rfl) 31 _ (0, 0) _ T4.out Try.underlying31 (by rfl) (info_cpu _) ?_) | (go_at_call 18; refine (HS1.out _).mono ?_; rintro e w5 ⟨rfl, hb⟩; have Bw5 : Hid (Below V2.heap.size V2 w5) := Bw4.out.trans (hb.mono Bw4.out.size); obtain ⟨_, _, _, _, _, n6, n7, n8, n9, _⟩ := NA.out w5 Bw5.out; clear hb HS1))
  refine go_onP (motive := fun W => Code.wp _ _ _ _ W) (Q := fun W => Row W w.heap.size (cpc P) 31 ∧ Row W gO (cpc O) 31 ∧ Below w.heap.size w W) ⟨S0.out.cb Bw5.out, S2.out.cb Bw5.out, BB.out.trans (Bw5.out.mono BB.out.size)⟩ ?_
  clear S0 S1 S2 BB Bw4 Bw5 T4 NA k1 k2 k3 k4 k5 k6 k7 k8 k9 n6 n7 n8 n9 heqR hzr ne2 ne3 LA
  rintro V3 ⟨q0, q2, c0⟩
  have S0 : Hid (Row V3 w.heap.size (cpc P) 31) := q0
  have S2 : Hid (Row V3 gO (cpc O) 31) := q2
  have BB : Hid (Below w.heap.size w V3) := c0
  have c1 : V3.cell? ⟨gO, 0, none⟩ = some (.int .u64 (n64 P.pc)) := by rw [← FOp.out]; exact q2.cls.pc
  have c2 : V3.cell? ⟨gO, 33, none⟩ = some (.int .i64 3) := by rw [← FOm.out]; exact q2.cls.md
  have c3 : V3.cell? ⟨w.heap.size, 33, none⟩ = some (.int .i64 3) := by rw [← FPm.out]; exact q0.cls.md
  have l1 : ∀ x : Later V3, x.1.cell? ⟨gO, 0, none⟩ = some (.int .u64 (n64 P.pc)) := later_at q2.lt c1
  have l2 : ∀ x : Later V3, x.1.cell? ⟨gO, 33, none⟩ = some (.int .i64 3) := later_at q2.lt c2
  have l3 : ∀ x : Later V3, x.1.cell? ⟨w.heap.size, 33, none⟩ = some (.int .i64 3) := later_at q0.lt c3
  have l4 : ∀ x : Later V3, x.1.cell? ⟨w.heap.size, 0, none⟩ = some (.int .u64 (n64 P.pc)) := later_at q0.lt q0.cls.pc
  have LS0 : Hid (∀ j v, (cpc P)[j]? = some v → V3.cell? ⟨w.heap.size, 0 + j, none⟩ = some v) := q0.cpu.agg
  have LS2 : Hid (∀ j v, (cpc O)[j]? = some v → V3.cell? ⟨gO, 0 + j, none⟩ = some v) := q2.cpu.agg
  clear q0 q2 c0 c1 c2 c3
  have hne := later_nonempty V3
  refine wp_region_later (x0 := Later.start V3) (by kernel_rfl) (by kernel_rfl) ?_
  iterate 13 (go_big_quiet_step (fail))
  (refine BigFrame.wpQuiet_want (by rfl) fun K hK => ?_; refine quiet_load_agg 31 _ (by rfl) gO 0 (by rfl) (cpc O) _ S2.out.lt LS2.out Try.underlying31 (by rfl) (info_cpu _) (hK _ ?_); clear hK K; simp only [Act.put, List.setIfInBounds_toArray, List.set_cons_succ, List.set_cons_zero])
  go_big_quiet_step (first | (go_at_call 18; exact calls_later (HSa.out _)))
  (refine BigFrame.wpQuiet_want (by rfl) fun K hK => ?_; refine quiet_load_agg 31 _ (by rfl) w.heap.size 0 (by rfl) (cpc P) _ S0.out.lt LS0.out Try.underlying31 (by rfl) (info_cpu _) (hK _ ?_); clear hK K; simp only [Act.put, List.setIfInBounds_toArray, List.set_cons_succ, List.set_cons_zero])
  go_big_quiet_step (first | (go_at_call 18; exact calls_later (HSb.out _)))
  iterate 3 (go_big_quiet_step (fail))
  (refine BigFrame.wpQuiet_want (by rfl) fun K hK => ?_; refine quiet_load_agg 31 _ (by rfl) gO 0 (by rfl) (cpc O) _ S2.out.lt LS2.out Try.underlying31 (by rfl) (info_cpu _) (hK _ ?_); clear hK K; simp only [Act.put, List.setIfInBounds_toArray, List.set_cons_succ, List.set_cons_zero])
  go_big_quiet_step (first | (go_at_call 18; exact calls_later (HSc.out _)))
  iterate 7 (go_big_quiet_step (fail))
  (refine BigFrame.wpQuiet_want (by rfl) fun K hK => ?_; refine quiet_load_agg 31 _ (by rfl) gO 0 (by rfl) (cpc O) _ S2.out.lt LS2.out Try.underlying31 (by rfl) (info_cpu _) (hK _ ?_); clear hK K; simp only [Act.put, List.setIfInBounds_toArray, List.set_cons_succ, List.set_cons_zero])
  go_big_quiet_step (first | (go_at_call 18; exact calls_later (HSd.out _)))
  (refine BigFrame.wpQuiet_want (by rfl) fun K hK => ?_; refine quiet_load_agg 31 _ (by rfl) w.heap.size 0 (by rfl) (cpc P) _ S0.out.lt LS0.out Try.underlying31 (by rfl) (info_cpu _) (hK _ ?_); clear hK K; simp only [Act.put, List.setIfInBounds_toArray, List.set_cons_succ, List.set_cons_zero])
  go_big_quiet_step (first | (go_at_call 18; exact calls_later (HSe.out _)))
  iterate 3 (go_big_quiet_step (fail))
  refine wpQuiet_nil ?_
  rintro w' ⟨x9, rfl⟩
  go_upto_region 8 with fail
  refine go_onP (motive := fun W => Code.wp _ _ _ _ W) (Q := fun W => Row W w.heap.size (cpc P) 31 ∧ Row W gO (cpc O) 31 ∧ Below w.heap.size w W) ⟨S0.out.cb x9.below, S2.out.cb x9.below, BB.out.trans (x9.below.mono BB.out.size)⟩ ?_
  clear S0 S2 BB l1 l2 l3 l4 LS0 LS2 hne HSa HSb HSc HSd HSe ne1
  rintro V4 ⟨q0, q2, c0⟩
  have S0 : Hid (Row V4 w.heap.size (cpc P) 31) := q0
  have S2 : Hid (Row V4 gO (cpc O) 31) := q2
  have BB : Hid (Below w.heap.size w V4) := c0
  have f2 := q2.froz
  have p0 := q0.cls.s0
  have p7 := q0.cls.s7
  have p8 := q0.cls.s8
  have p9 := q0.cls.s9
  have pw := q0.cls.wt
  have pv := q0.cls.rv
  have pa := q0.cls.ra
  have ps := q0.cls.rs
  have o0 := q2.cls.s0
  have o7 := q2.cls.s7
  have o8 := q2.cls.s8
  have o9 := q2.cls.s9
  have ow := q2.cls.wt
  have ov := q2.cls.rv
  have oa := q2.cls.ra
  have os := q2.cls.rs
  clear q0 q2 c0
  go_upto_region 14 with fail
  have Q := (((((((S2.out.put (i := 35) (.int .u64 (n64 (P.s 0)))).put (i := 42) (.int .u64 (n64 (P.s 7)))).put (i := 43) (.int .u64 (n64 (P.s 8)))).put (i := 44) (.int .u64 (n64 (P.s 9)))).put (i := 34) (.bool P.wt)).put (i := 79) (.bool P.rv)).put (i := 80) (.int .u64 (n64 P.ra))).put (i := 81) (.int .i64 P.rs)
  rw [cpc_s0, cpc_s7, cpc_s8, cpc_s9, cpc_wt, cpc_rv, cpc_ra, cpc_rs] at Q
  refine go_onP (motive := fun W => Code.wp _ _ _ _ W) (Q := fun W => Row W w.heap.size (cpc P) 31 ∧ Row W gO (cpc P) 31 ∧ Below w.heap.size w W) ⟨(Row.other (Row.other (Row.other (Row.other (Row.other (Row.other (Row.other (Row.other S0.out (by have := LO.out; omega) _) (by have := LO.out; omega) _) (by have := LO.out; omega) _) (by have := LO.out; omega) _) (by have := LO.out; omega) _) (by have := LO.out; omega) _) (by have := LO.out; omega) _) (by have := LO.out; omega) _), row_cast Q (congrArg cpc FB.out), (below_put (below_put (below_put (below_put (below_put (below_put (below_put (below_put BB.out (Nat.le_of_lt LO.out) _) (Nat.le_of_lt LO.out) _) (Nat.le_of_lt LO.out) _) (Nat.le_of_lt LO.out) _) (Nat.le_of_lt LO.out) _) (Nat.le_of_lt LO.out) _) (Nat.le_of_lt LO.out) _) (Nat.le_of_lt LO.out) _)⟩ ?_
  clear Q S0 S2 BB f2 p0 p7 p8 p9 pw pv pa ps o0 o7 o8 o9 ow ov oa os
  rintro V5 ⟨q0, q2, c0⟩
  have S0 : Hid (Row V5 w.heap.size (cpc P) 31) := q0
  have S2 : Hid (Row V5 gO (cpc P) 31) := q2
  have BB : Hid (Below w.heap.size w V5) := c0
  clear q0 q2 c0
  go_wp2_with (first | (refine wpList_load_row (by rfl) _ _ (by rfl) _ (by rfl) 31 _ (0, 0) _ S2.out Try.underlying31 (by rfl) (info_cpu _) ?_) | (refine wpList_load_row (by rfl) _ _ (by rfl) _ (by rfl) 31 _ (0, 0) _ S0.out Try.underlying31 (by rfl) (info_cpu _) ?_))
  go_ret
  exact ⟨rfl, BB.out⟩
theorem tback_walk (hp : CPr) (hpd : TPd) (hen : TEn) (hrt : TRt) (hwt : TWt) (hef : TEf) (k : Cp) (cause tval : BitVec 64) (w : World) :
    Calls Try.prog 6 #[.agg (cpc k), .int .u64 (n64 cause), .int .u64 (n64 tval)] w fun e w' => e = .returned (.bool true) ∧ Below w.heap.size w w' := by
  have hf := fun W => first_c hpd hen hrt hwt hef W
  rcases PR_md k with h | h
  · exact tback_0 hp hf hen hrt k cause tval h w
  · exact tback_3 hp hf hen hrt k cause tval h w
end Go.Proofs.Ytnejdfkmnblfeaa
