/-
  TrapProper: its walk.
-/
import Derived.Test.YtnejdfkmnblfeaaTfi
import Derived.Test.YtnejdfkmnblfeaaTmf
import Derived.Deep.RegionWith
namespace Go.Proofs.Ytnejdfkmnblfeaa
set_option linter.unusedVariables false
open Go.ChangeShapes Go.WideShapes Go.ChangeAt Go.RowKit Go.Deep
set_option maxRecDepth 100000 in
set_option maxHeartbeats 1000000 in
theorem proper_c (hp : CPr) (X : Cp) (hX : PR X = X) (w : World) : Calls Try.prog 16 #[.agg (cpc X)] w fun e w' => e = .returned (.bool true) ∧ Below w.heap.size w w' := by
  obtain ⟨W0, hW0, r0, b0, s0⟩ := start1 w (cpc X) 31
  have hlt : Hid (w.heap.size < W0.heap.size) := by unfold Hid; omega
  clear s0
  have := later_nonempty W0
  have hA : Hid (∀ W : World, Calls Try.prog 12 #[.agg (cpc X)] W fun e w' => e = .returned (.agg (cpc X)) ∧ Below W.heap.size W w') := fun W => by have h := hp X W; rw [hX] at h; exact h
  have heq : ∀ W, (Op.equalIn 10000 31 (.agg (cpc X)) (.agg (cpc X))).run Try.prog W = .ok true W := fun W => eq_cpu W _
  have HL : Hid (∀ j v, (cpc X)[j]? = some v → W0.cell? ⟨w.heap.size, 0 + j, none⟩ = some v) := r0.out.cpu.agg
  go_enter Try.func16, Try.ntmps16
  go_upto_region 1 with fail
  clear hW0
  refine wp_region_later (x0 := Later.start W0) (by kernel_rfl) (by kernel_rfl) ?_
  repeat (first | (refine BigFrame.wpQuiet_want (by rfl) fun K hK => ?_; refine quiet_load_agg 31 _ (by rfl) w.heap.size 0 (by rfl) (cpc X) _ hlt.out HL.out Try.underlying31 (by rfl) (info_cpu _) (hK _ ?_); clear hK K; simp only [Act.put, List.setIfInBounds_toArray, List.set_cons_succ, List.set_cons_zero]) | (go_big_quiet_step (first | (go_at_call 12; exact calls_later (hA.out _)))))
  refine wpQuiet_nil ?_
  rintro w' ⟨x9, rfl⟩
  go_wp2
  go_ret
  exact ⟨rfl, b0.out.trans (x9.below.mono (Nat.le_of_lt hlt.out))⟩
set_option maxRecDepth 100000 in
set_option maxHeartbeats 4000000 in
theorem tproper_walk (hp : CPr) (hpd : TPd) (hen : TEn) (hrt : TRt) (hwt : TWt) (hef : TEf) (k : Cp) (cause tval mip : BitVec 64) (w : World) :
    Calls Try.prog 5 #[.agg (cpc k), .int .u64 (n64 cause), .int .u64 (n64 tval), .int .u64 (n64 mip)] w fun e w' => e = .returned (.bool true) ∧ Below w.heap.size w w' := by
  have hz := zero_cpu
  obtain ⟨W0, hW0, r0, b0, s0⟩ := start1 w (cpc k) 31
  clear s0
  have HFi : Hid (∀ W, Calls Try.prog 11 #[] W fun e w' => e = .returned (.bool true) ∧ Below W.heap.size W w') := fun W => first_c hpd hen hrt hwt hef W
  have HPr : Hid (∀ W, Calls Try.prog 12 #[.agg (cpc k)] W fun e w' => e = .returned (.agg (cpc (PR k))) ∧ Below W.heap.size W w') := hp k
  have HPP : Hid (∀ X, PR X = X → ∀ W, Calls Try.prog 16 #[.agg (cpc X)] W fun e w' => e = .returned (.bool true) ∧ Below W.heap.size W w') := fun X h W => proper_c hp X h W
  have FA : Hid (PR (ENc k cause tval) = ENc k cause tval) := EN_pr k cause tval
  have FB : Hid (PR (RTc k) = RTc k) := RT_pr k
  have FD : Hid (PR (WTc k) = WTc k) := WT_pr k
  have HE : Hid (∀ W, Calls Try.prog 13 #[.agg (cpc k), .int .u64 (n64 cause), .int .u64 (n64 tval)] W fun e w' => e = .returned (.agg (cpc (ENc k cause tval))) ∧ Below W.heap.size W w') := hen k cause tval
  have HE2 : Hid (∀ W, Calls Try.prog 13 #[.agg (cpc (PR k)), .int .u64 (n64 cause), .int .u64 (n64 tval)] W fun e w' => e = .returned (.agg (cpc (ENc k cause tval))) ∧ Below W.heap.size W w') := fun W => by have h := hen (PR k) cause tval W; rw [EN_PR] at h; exact h
  have HR : Hid (∀ W, Calls Try.prog 14 #[.agg (cpc k)] W fun e w' => e = .returned (.tuple #[.agg (cpc (RTc k)), .bool (RTk k)]) ∧ Below W.heap.size W w') := hrt k
  have HR2 : Hid (∀ W, Calls Try.prog 14 #[.agg (cpc (PR k))] W fun e w' => e = .returned (.tuple #[.agg (cpc (RTc k)), .bool (RTk k)]) ∧ Below W.heap.size W w') := fun W => by have h := hrt (PR k) W; rw [(RT_PR k).1, (RT_PR k).2] at h; exact h
  have HW : Hid (∀ W, Calls Try.prog 15 #[.agg (cpc k)] W fun e w' => e = .returned (.tuple #[.agg (cpc (WTc k)), .bool (WTk k)]) ∧ Below W.heap.size W w') := hwt k
  have HW2 : Hid (∀ W, Calls Try.prog 15 #[.agg (cpc (PR k))] W fun e w' => e = .returned (.tuple #[.agg (cpc (WTc k)), .bool (WTk k)]) ∧ Below W.heap.size W w') := fun W => by have h := hwt (PR k) W; rw [(WT_PR k).1, (WT_PR k).2] at h; exact h
  have HD : Hid (∀ W, Calls Try.prog 9 #[.agg (cpc k), .int .u64 (n64 mip)] W fun e w' => e = .returned (.tuple #[.int .i64 (PD k mip).1, .bool (PD k mip).2]) ∧ Below W.heap.size W w') := hpd k mip
  have HD2 : Hid (∀ W, Calls Try.prog 9 #[.agg (cpc (PR k)), .int .u64 (n64 mip)] W fun e w' => e = .returned (.tuple #[.int .i64 (PD k mip).1, .bool (PD k mip).2]) ∧ Below W.heap.size W w') := fun W => by have h := hpd (PR k) mip W; rw [PD_PR] at h; exact h
  have HF : Hid (∀ W, Calls Try.prog 17 #[.agg (cpc k)] W fun e w' => e = .returned (.int .i64 (EF k)) ∧ Below W.heap.size W w') := hef k
  have HF2 : Hid (∀ W, Calls Try.prog 17 #[.agg (cpc (PR k))] W fun e w' => e = .returned (.int .i64 (EF k)) ∧ Below W.heap.size W w') := fun W => by have h := hef (PR k) W; rw [EF_PR] at h; exact h
  generalize ENc k cause tval = A at FA HE HE2
  generalize RTc k = B at FB HR HR2
  generalize WTc k = E at FD HW HW2
  generalize RTk k = zb at HR HR2
  generalize WTk k = ze at HW HW2
  generalize (PD k mip).1 = zn at HD HD2
  generalize (PD k mip).2 = zp at HD HD2
  generalize EF k = zf at HF HF2
  generalize PR k = P at HPr HE2 HR2 HW2 HD2 HF2
  have qa : ∀ W, (Op.equalIn 10000 31 (.agg (cpc A)) (.agg (cpc A))).run Try.prog W = .ok true W := fun W => eq_cpu W _
  have qb : ∀ W, (Op.equalIn 10000 31 (.agg (cpc B)) (.agg (cpc B))).run Try.prog W = .ok true W := fun W => eq_cpu W _
  have qe : ∀ W, (Op.equalIn 10000 31 (.agg (cpc E)) (.agg (cpc E))).run Try.prog W = .ok true W := fun W => eq_cpu W _
  have e1 : (zb == zb) = true := by simp
  have e2 : (ze == ze) = true := by simp
  have e3 : (zn == zn) = true := by simp
  have e4 : (zp == zp) = true := by simp
  have e5 : (zf == zf) = true := by simp
  have S0 : Hid (Row W0 w.heap.size (cpc k) 31) := r0.out
  have BB : Hid (Below w.heap.size w W0) := b0.out
  clear r0 b0 hp hpd hen hrt hwt hef
  go_enter Try.func5, Try.ntmps5
  go_upto_region 1 with fail
  clear hW0
  go_upto_region 2 with (first | (refine wpList_load_row (by rfl) _ _ (by rfl) _ (by rfl) 31 _ (0, 0) _ S0.out Try.underlying31 (by rfl) (info_cpu _) ?_) | (go_at_call 12; refine (HPr.out _).mono ?_; rintro e y1 ⟨rfl, hb⟩; have By1 : Hid (Below W0.heap.size W0 y1) := hb; clear hb) | (refine wpList_store_last (by rfl) _ _ _ (by rfl) (by rfl) _ _ _ (by rfl) (by rfl) (by rfl) (info_cpu _) (by rw [cpc_size, cpc_size]) (cpc_ones _) ?_))
  refine go_onP (motive := fun W => Code.wp _ _ _ _ W) (Q := fun W => Row W w.heap.size (cpc k) 31 ∧ Row W y1.heap.size (cpc P) 31 ∧ Below w.heap.size w W) ⟨S0.out.ca By1.out _, Row.new y1 (cpc P) 31, (BB.out.trans (By1.out.mono BB.out.size)).alloc (Nat.le_trans BB.out.size By1.out.size) _⟩ ?_
  clear S0 BB By1
  generalize y1.heap.size = g1
  rintro V1 ⟨qS0, qS1, c0⟩
  have S0 : Hid (Row V1 w.heap.size (cpc k) 31) := qS0
  have S1 : Hid (Row V1 g1 (cpc P) 31) := qS1
  have BB : Hid (Below w.heap.size w V1) := c0
  clear qS0 qS1 c0
  go_upto_region 3 with (first | (refine wpList_load_row (by rfl) _ _ (by rfl) _ (by rfl) 31 _ (0, 0) _ S0.out Try.underlying31 (by rfl) (info_cpu _) ?_) | (go_at_call 13; refine (HE.out _).mono ?_; rintro e y2 ⟨rfl, hb⟩; have By2 : Hid (Below V1.heap.size V1 y2) := hb; clear hb) | (refine wpList_store_last (by rfl) _ _ _ (by rfl) (by rfl) _ _ _ (by rfl) (by rfl) (by rfl) (info_cpu _) (by rw [cpc_size, cpc_size]) (cpc_ones _) ?_))
  refine go_onP (motive := fun W => Code.wp _ _ _ _ W) (Q := fun W => Row W w.heap.size (cpc k) 31 ∧ Row W g1 (cpc P) 31 ∧ Row W y2.heap.size (cpc A) 31 ∧ Below w.heap.size w W) ⟨S0.out.ca By2.out _, S1.out.ca By2.out _, Row.new y2 (cpc A) 31, (BB.out.trans (By2.out.mono BB.out.size)).alloc (Nat.le_trans BB.out.size By2.out.size) _⟩ ?_
  clear S0 S1 BB By2
  generalize y2.heap.size = g2
  rintro V2 ⟨qS0, qS1, qS2, c0⟩
  have S0 : Hid (Row V2 w.heap.size (cpc k) 31) := qS0
  have S1 : Hid (Row V2 g1 (cpc P) 31) := qS1
  have S2 : Hid (Row V2 g2 (cpc A) 31) := qS2
  have BB : Hid (Below w.heap.size w V2) := c0
  clear qS0 qS1 qS2 c0
  go_upto_region 4 with (first | (refine wpList_load_row (by rfl) _ _ (by rfl) _ (by rfl) 31 _ (0, 0) _ S0.out Try.underlying31 (by rfl) (info_cpu _) ?_) | (go_at_call 14; refine (HR.out _).mono ?_; rintro e y3 ⟨rfl, hb⟩; have By3 : Hid (Below V2.heap.size V2 y3) := hb; clear hb) | (refine wpList_store_last (by rfl) _ _ _ (by rfl) (by rfl) _ _ _ (by rfl) (by rfl) (by rfl) (info_cpu _) (by rw [cpc_size, cpc_size]) (cpc_ones _) ?_))
  refine go_onP (motive := fun W => Code.wp _ _ _ _ W) (Q := fun W => Row W w.heap.size (cpc k) 31 ∧ Row W g1 (cpc P) 31 ∧ Row W g2 (cpc A) 31 ∧ Row W y3.heap.size (cpc B) 31 ∧ Below w.heap.size w W) ⟨S0.out.ca By3.out _, S1.out.ca By3.out _, S2.out.ca By3.out _, Row.new y3 (cpc B) 31, (BB.out.trans (By3.out.mono BB.out.size)).alloc (Nat.le_trans BB.out.size By3.out.size) _⟩ ?_
  clear S0 S1 S2 BB By3
  generalize y3.heap.size = g3
  rintro V3 ⟨qS0, qS1, qS2, qS3, c0⟩
  have S0 : Hid (Row V3 w.heap.size (cpc k) 31) := qS0
  have S1 : Hid (Row V3 g1 (cpc P) 31) := qS1
  have S2 : Hid (Row V3 g2 (cpc A) 31) := qS2
  have S3 : Hid (Row V3 g3 (cpc B) 31) := qS3
  have BB : Hid (Below w.heap.size w V3) := c0
  clear qS0 qS1 qS2 qS3 c0
  go_upto_region 5 with (first | (refine wpList_load_row (by rfl) _ _ (by rfl) _ (by rfl) 31 _ (0, 0) _ S0.out Try.underlying31 (by rfl) (info_cpu _) ?_) | (go_at_call 15; refine (HW.out _).mono ?_; rintro e y4 ⟨rfl, hb⟩; have By4 : Hid (Below V3.heap.size V3 y4) := hb; clear hb) | (refine wpList_store_last (by rfl) _ _ _ (by rfl) (by rfl) _ _ _ (by rfl) (by rfl) (by rfl) (info_cpu _) (by rw [cpc_size, cpc_size]) (cpc_ones _) ?_))
  refine go_onP (motive := fun W => Code.wp _ _ _ _ W) (Q := fun W => Row W w.heap.size (cpc k) 31 ∧ Row W g1 (cpc P) 31 ∧ Row W g2 (cpc A) 31 ∧ Row W g3 (cpc B) 31 ∧ Row W y4.heap.size (cpc E) 31 ∧ Below w.heap.size w W) ⟨S0.out.ca By4.out _, S1.out.ca By4.out _, S2.out.ca By4.out _, S3.out.ca By4.out _, Row.new y4 (cpc E) 31, (BB.out.trans (By4.out.mono BB.out.size)).alloc (Nat.le_trans BB.out.size By4.out.size) _⟩ ?_
  clear S0 S1 S2 S3 BB By4
  generalize y4.heap.size = g4
  rintro V4 ⟨qS0, qS1, qS2, qS3, qS4, c0⟩
  have S0 : Hid (Row V4 w.heap.size (cpc k) 31) := qS0
  have S1 : Hid (Row V4 g1 (cpc P) 31) := qS1
  have S2 : Hid (Row V4 g2 (cpc A) 31) := qS2
  have S3 : Hid (Row V4 g3 (cpc B) 31) := qS3
  have S4 : Hid (Row V4 g4 (cpc E) 31) := qS4
  have BB : Hid (Below w.heap.size w V4) := c0
  clear qS0 qS1 qS2 qS3 qS4 c0
  have N0 : Hid (∀ w' : World, Below V4.heap.size V4 w' → (Row w' w.heap.size (cpc k) 31 ∧ Row w' g1 (cpc P) 31 ∧ Row w' g2 (cpc A) 31 ∧ Row w' g3 (cpc B) 31 ∧ Row w' g4 (cpc E) 31 ∧ Below w.heap.size w w')) := fun w' h => ⟨S0.out.cb h, S1.out.cb h, S2.out.cb h, S3.out.cb h, S4.out.cb h, BB.out.trans (h.mono BB.out.size)⟩
  go_upto_region 7 with (first | (go_at_call 11; refine (HFi.out _).mono ?_; rintro e ya ⟨rfl, hb⟩; have M1 : Hid (Below V4.heap.size V4 ya) := hb; have T1 : Hid (Row ya g2 (cpc A) 31) := (N0.out _ hb).2.2.1; clear hb) | (refine wpList_load_rowG (by rfl) _ _ (by rfl) g2 (by rfl) 31 _ (0, 0) _ T1.out Try.underlying31 (by rfl) (info_cpu _) ?_) | (go_at_call 16; refine (HPP.out A FA.out _).mono ?_; rintro e yb ⟨rfl, hb⟩; have M2 : Hid (Below V4.heap.size V4 yb) := M1.out.trans (hb.mono M1.out.size); have T2 : Hid (Row yb g3 (cpc B) 31) := (N0.out _ (M1.out.trans (hb.mono M1.out.size))).2.2.2.1; clear hb FA) | (refine wpList_load_rowG (by rfl) _ _ (by rfl) g3 (by rfl) 31 _ (0, 0) _ T2.out Try.underlying31 (by rfl) (info_cpu _) ?_) | (go_at_call 16; refine (HPP.out B FB.out _).mono ?_; rintro e yc ⟨rfl, hb⟩; have M3 : Hid (Below V4.heap.size V4 yc) := M2.out.trans (hb.mono M2.out.size); have T3 : Hid (Row yc g4 (cpc E) 31) := (N0.out _ (M2.out.trans (hb.mono M2.out.size))).2.2.2.2.1; clear hb FB) | (refine wpList_load_rowG (by rfl) _ _ (by rfl) g4 (by rfl) 31 _ (0, 0) _ T3.out Try.underlying31 (by rfl) (info_cpu _) ?_) | (go_at_call 16; refine (HPP.out E FD.out _).mono ?_; rintro e yd ⟨rfl, hb⟩; have M4 : Hid (Below V4.heap.size V4 yd) := M3.out.trans (hb.mono M3.out.size); clear hb FD))
  refine go_onP (motive := fun W => Code.wp _ _ _ _ W) (Q := fun W => Row W w.heap.size (cpc k) 31 ∧ Row W g1 (cpc P) 31 ∧ Row W g2 (cpc A) 31 ∧ Row W g3 (cpc B) 31 ∧ Row W g4 (cpc E) 31 ∧ Below w.heap.size w W) (N0.out _ M4.out) ?_
  clear S0 S1 S2 S3 S4 BB N0 M1 M2 M3 M4 T1 T2 T3 HFi HPP
  rintro U1 ⟨qS0, qS1, qS2, qS3, qS4, c0⟩
  have S0 : Hid (Row U1 w.heap.size (cpc k) 31) := qS0
  have S1 : Hid (Row U1 g1 (cpc P) 31) := qS1
  have S2 : Hid (Row U1 g2 (cpc A) 31) := qS2
  have S3 : Hid (Row U1 g3 (cpc B) 31) := qS3
  have S4 : Hid (Row U1 g4 (cpc E) 31) := qS4
  have BB : Hid (Below w.heap.size w U1) := c0
  clear qS0 qS1 qS2 qS3 qS4 c0
  go_upto_region 8 with (first | (refine wpList_load_row (by rfl) _ _ (by rfl) _ (by rfl) 31 _ (0, 0) _ S1.out Try.underlying31 (by rfl) (info_cpu _) ?_) | (go_at_call 14; refine (HR2.out _).mono ?_; rintro e y5 ⟨rfl, hb⟩; have By5 : Hid (Below U1.heap.size U1 y5) := hb; clear hb) | (refine wpList_store_last (by rfl) _ _ _ (by rfl) (by rfl) _ _ _ (by rfl) (by rfl) (by rfl) (info_cpu _) (by rw [cpc_size, cpc_size]) (cpc_ones _) ?_))
  refine go_onP (motive := fun W => Code.wp _ _ _ _ W) (Q := fun W => Row W w.heap.size (cpc k) 31 ∧ Row W g1 (cpc P) 31 ∧ Row W g2 (cpc A) 31 ∧ Row W g3 (cpc B) 31 ∧ Row W g4 (cpc E) 31 ∧ Row W y5.heap.size (cpc B) 31 ∧ Below w.heap.size w W) ⟨S0.out.ca By5.out _, S1.out.ca By5.out _, S2.out.ca By5.out _, S3.out.ca By5.out _, S4.out.ca By5.out _, Row.new y5 (cpc B) 31, (BB.out.trans (By5.out.mono BB.out.size)).alloc (Nat.le_trans BB.out.size By5.out.size) _⟩ ?_
  clear S0 S1 S2 S3 S4 BB By5
  generalize y5.heap.size = g5
  rintro V5 ⟨qS0, qS1, qS2, qS3, qS4, qS5, c0⟩
  have S0 : Hid (Row V5 w.heap.size (cpc k) 31) := qS0
  have S1 : Hid (Row V5 g1 (cpc P) 31) := qS1
  have S2 : Hid (Row V5 g2 (cpc A) 31) := qS2
  have S3 : Hid (Row V5 g3 (cpc B) 31) := qS3
  have S4 : Hid (Row V5 g4 (cpc E) 31) := qS4
  have S5 : Hid (Row V5 g5 (cpc B) 31) := qS5
  have BB : Hid (Below w.heap.size w V5) := c0
  clear qS0 qS1 qS2 qS3 qS4 qS5 c0
  go_upto_region 9 with (first | (refine wpList_load_row (by rfl) _ _ (by rfl) _ (by rfl) 31 _ (0, 0) _ S1.out Try.underlying31 (by rfl) (info_cpu _) ?_) | (go_at_call 15; refine (HW2.out _).mono ?_; rintro e y6 ⟨rfl, hb⟩; have By6 : Hid (Below V5.heap.size V5 y6) := hb; clear hb) | (refine wpList_store_last (by rfl) _ _ _ (by rfl) (by rfl) _ _ _ (by rfl) (by rfl) (by rfl) (info_cpu _) (by rw [cpc_size, cpc_size]) (cpc_ones _) ?_))
  refine go_onP (motive := fun W => Code.wp _ _ _ _ W) (Q := fun W => Row W w.heap.size (cpc k) 31 ∧ Row W g1 (cpc P) 31 ∧ Row W g2 (cpc A) 31 ∧ Row W g3 (cpc B) 31 ∧ Row W g4 (cpc E) 31 ∧ Row W g5 (cpc B) 31 ∧ Row W y6.heap.size (cpc E) 31 ∧ Below w.heap.size w W) ⟨S0.out.ca By6.out _, S1.out.ca By6.out _, S2.out.ca By6.out _, S3.out.ca By6.out _, S4.out.ca By6.out _, S5.out.ca By6.out _, Row.new y6 (cpc E) 31, (BB.out.trans (By6.out.mono BB.out.size)).alloc (Nat.le_trans BB.out.size By6.out.size) _⟩ ?_
  clear S0 S1 S2 S3 S4 S5 BB By6
  generalize y6.heap.size = g6
  rintro V6 ⟨qS0, qS1, qS2, qS3, qS4, qS5, qS6, c0⟩
  have S0 : Hid (Row V6 w.heap.size (cpc k) 31) := qS0
  have S1 : Hid (Row V6 g1 (cpc P) 31) := qS1
  have S2 : Hid (Row V6 g2 (cpc A) 31) := qS2
  have S3 : Hid (Row V6 g3 (cpc B) 31) := qS3
  have S4 : Hid (Row V6 g4 (cpc E) 31) := qS4
  have S5 : Hid (Row V6 g5 (cpc B) 31) := qS5
  have S6 : Hid (Row V6 g6 (cpc E) 31) := qS6
  have BB : Hid (Below w.heap.size w V6) := c0
  clear qS0 qS1 qS2 qS3 qS4 qS5 qS6 c0
  go_upto_region 10 with (first | (refine wpList_load_row (by rfl) _ _ (by rfl) _ (by rfl) 31 _ (0, 0) _ S0.out Try.underlying31 (by rfl) (info_cpu _) ?_) | (go_at_call 9; refine (HD.out _).mono ?_; rintro e y7 ⟨rfl, hb⟩; have By7 : Hid (Below V6.heap.size V6 y7) := hb; clear hb))
  refine go_onP (motive := fun W => Code.wp _ _ _ _ W) (Q := fun W => Row W w.heap.size (cpc k) 31 ∧ Row W g1 (cpc P) 31 ∧ Row W g2 (cpc A) 31 ∧ Row W g3 (cpc B) 31 ∧ Row W g4 (cpc E) 31 ∧ Row W g5 (cpc B) 31 ∧ Row W g6 (cpc E) 31 ∧ Below w.heap.size w W) ⟨S0.out.cb By7.out, S1.out.cb By7.out, S2.out.cb By7.out, S3.out.cb By7.out, S4.out.cb By7.out, S5.out.cb By7.out, S6.out.cb By7.out, BB.out.trans (By7.out.mono BB.out.size)⟩ ?_
  clear S0 S1 S2 S3 S4 S5 S6 BB By7
  rintro V7 ⟨qS0, qS1, qS2, qS3, qS4, qS5, qS6, c0⟩
  have S0 : Hid (Row V7 w.heap.size (cpc k) 31) := qS0
  have S1 : Hid (Row V7 g1 (cpc P) 31) := qS1
  have S2 : Hid (Row V7 g2 (cpc A) 31) := qS2
  have S3 : Hid (Row V7 g3 (cpc B) 31) := qS3
  have S4 : Hid (Row V7 g4 (cpc E) 31) := qS4
  have S5 : Hid (Row V7 g5 (cpc B) 31) := qS5
  have S6 : Hid (Row V7 g6 (cpc E) 31) := qS6
  have BB : Hid (Below w.heap.size w V7) := c0
  clear qS0 qS1 qS2 qS3 qS4 qS5 qS6 c0
  go_upto_region 11 with (first | (refine wpList_load_row (by rfl) _ _ (by rfl) _ (by rfl) 31 _ (0, 0) _ S1.out Try.underlying31 (by rfl) (info_cpu _) ?_) | (go_at_call 9; refine (HD2.out _).mono ?_; rintro e y8 ⟨rfl, hb⟩; have By8 : Hid (Below V7.heap.size V7 y8) := hb; clear hb))
  refine go_onP (motive := fun W => Code.wp _ _ _ _ W) (Q := fun W => Row W w.heap.size (cpc k) 31 ∧ Row W g1 (cpc P) 31 ∧ Row W g2 (cpc A) 31 ∧ Row W g3 (cpc B) 31 ∧ Row W g4 (cpc E) 31 ∧ Row W g5 (cpc B) 31 ∧ Row W g6 (cpc E) 31 ∧ Below w.heap.size w W) ⟨S0.out.cb By8.out, S1.out.cb By8.out, S2.out.cb By8.out, S3.out.cb By8.out, S4.out.cb By8.out, S5.out.cb By8.out, S6.out.cb By8.out, BB.out.trans (By8.out.mono BB.out.size)⟩ ?_
  clear S0 S1 S2 S3 S4 S5 S6 BB By8
  rintro V8 ⟨qS0, qS1, qS2, qS3, qS4, qS5, qS6, c0⟩
  have S0 : Hid (Row V8 w.heap.size (cpc k) 31) := qS0
  have S1 : Hid (Row V8 g1 (cpc P) 31) := qS1
  have S2 : Hid (Row V8 g2 (cpc A) 31) := qS2
  have S3 : Hid (Row V8 g3 (cpc B) 31) := qS3
  have S4 : Hid (Row V8 g4 (cpc E) 31) := qS4
  have S5 : Hid (Row V8 g5 (cpc B) 31) := qS5
  have S6 : Hid (Row V8 g6 (cpc E) 31) := qS6
  have BB : Hid (Below w.heap.size w V8) := c0
  clear qS0 qS1 qS2 qS3 qS4 qS5 qS6 c0
  have LS0 : Hid (∀ j v, (cpc k)[j]? = some v → V8.cell? ⟨w.heap.size, 0 + j, none⟩ = some v) := S0.out.cpu.agg
  have LS1 : Hid (∀ j v, (cpc P)[j]? = some v → V8.cell? ⟨g1, 0 + j, none⟩ = some v) := S1.out.cpu.agg
  have LS2 : Hid (∀ j v, (cpc A)[j]? = some v → V8.cell? ⟨g2, 0 + j, none⟩ = some v) := S2.out.cpu.agg
  have LS3 : Hid (∀ j v, (cpc B)[j]? = some v → V8.cell? ⟨g3, 0 + j, none⟩ = some v) := S3.out.cpu.agg
  have LS4 : Hid (∀ j v, (cpc E)[j]? = some v → V8.cell? ⟨g4, 0 + j, none⟩ = some v) := S4.out.cpu.agg
  have LS5 : Hid (∀ j v, (cpc B)[j]? = some v → V8.cell? ⟨g5, 0 + j, none⟩ = some v) := S5.out.cpu.agg
  have LS6 : Hid (∀ j v, (cpc E)[j]? = some v → V8.cell? ⟨g6, 0 + j, none⟩ = some v) := S6.out.cpu.agg
  have hne := later_nonempty V8
  refine wp_region_later (x0 := Later.start V8) (by kernel_rfl) (by kernel_rfl) ?_
  (refine BigFrame.wpQuiet_want (by rfl) fun K hK => ?_; refine quiet_load_agg 31 _ (by rfl) g2 0 (by rfl) (cpc A) _ S2.out.lt LS2.out Try.underlying31 (by rfl) (info_cpu _) (hK _ ?_); clear hK K; simp only [Act.put, List.setIfInBounds_toArray, List.set_cons_succ, List.set_cons_zero])
  (refine BigFrame.wpQuiet_want (by rfl) fun K hK => ?_; refine quiet_load_agg 31 _ (by rfl) g1 0 (by rfl) (cpc P) _ S1.out.lt LS1.out Try.underlying31 (by rfl) (info_cpu _) (hK _ ?_); clear hK K; simp only [Act.put, List.setIfInBounds_toArray, List.set_cons_succ, List.set_cons_zero])
  iterate 5 (go_big_quiet_step (first | (go_at_call 13; exact calls_later (HE2.out _))))
  (refine BigFrame.wpQuiet_want (by rfl) fun K hK => ?_; refine quiet_load_agg 31 _ (by rfl) g3 0 (by rfl) (cpc B) _ S3.out.lt LS3.out Try.underlying31 (by rfl) (info_cpu _) (hK _ ?_); clear hK K; simp only [Act.put, List.setIfInBounds_toArray, List.set_cons_succ, List.set_cons_zero])
  (refine BigFrame.wpQuiet_want (by rfl) fun K hK => ?_; refine quiet_load_agg 31 _ (by rfl) g5 0 (by rfl) (cpc B) _ S5.out.lt LS5.out Try.underlying31 (by rfl) (info_cpu _) (hK _ ?_); clear hK K; simp only [Act.put, List.setIfInBounds_toArray, List.set_cons_succ, List.set_cons_zero])
  iterate 8 (go_big_quiet_step (fail))
  (refine BigFrame.wpQuiet_want (by rfl) fun K hK => ?_; refine quiet_load_agg 31 _ (by rfl) g4 0 (by rfl) (cpc E) _ S4.out.lt LS4.out Try.underlying31 (by rfl) (info_cpu _) (hK _ ?_); clear hK K; simp only [Act.put, List.setIfInBounds_toArray, List.set_cons_succ, List.set_cons_zero])
  (refine BigFrame.wpQuiet_want (by rfl) fun K hK => ?_; refine quiet_load_agg 31 _ (by rfl) g6 0 (by rfl) (cpc E) _ S6.out.lt LS6.out Try.underlying31 (by rfl) (info_cpu _) (hK _ ?_); clear hK K; simp only [Act.put, List.setIfInBounds_toArray, List.set_cons_succ, List.set_cons_zero])
  iterate 18 (go_big_quiet_step (fail))
  (refine BigFrame.wpQuiet_want (by rfl) fun K hK => ?_; refine quiet_load_agg 31 _ (by rfl) w.heap.size 0 (by rfl) (cpc k) _ S0.out.lt LS0.out Try.underlying31 (by rfl) (info_cpu _) (hK _ ?_); clear hK K; simp only [Act.put, List.setIfInBounds_toArray, List.set_cons_succ, List.set_cons_zero])
  go_big_quiet_step (first | (go_at_call 17; exact calls_later (HF.out _)))
  (refine BigFrame.wpQuiet_want (by rfl) fun K hK => ?_; refine quiet_load_agg 31 _ (by rfl) g1 0 (by rfl) (cpc P) _ S1.out.lt LS1.out Try.underlying31 (by rfl) (info_cpu _) (hK _ ?_); clear hK K; simp only [Act.put, List.setIfInBounds_toArray, List.set_cons_succ, List.set_cons_zero])
  iterate 4 (go_big_quiet_step (first | (go_at_call 17; exact calls_later (HF2.out _))))
  refine wpQuiet_nil ?_
  rintro w' ⟨x9, rfl⟩
  go_wp2
  go_ret
  exact ⟨rfl, BB.out.trans (x9.below.mono BB.out.size)⟩
end Go.Proofs.Ytnejdfkmnblfeaa
