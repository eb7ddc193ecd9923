/-
  TrapAll: its walk.
-/
import Derived.Test.YtnejdfkmnblfeabTac
import Derived.Test.YtnejdfkmnblfeabTre
namespace Go.Proofs.Ytnejdfkmnblfeab
set_option linter.unusedVariables false
open Go.ChangeShapes Go.WideShapes Go.ChangeAt Go.RowKit Go.Deep
/-- A Cpu with four registers put in. -/
def setK (K : Cp) (xc xt xn : BitVec 64) : Cp := { K with s := upd (upd (upd (upd K.s 0 xn) 1 xt) 2 xc) 7 xn }
set_option maxRecDepth 100000 in
set_option maxHeartbeats 8000000 in
theorem tall_walk (hpd : TPd) (hen : TEn) (hrt : TRt) (hwt : TWt) (hef : TEf) (k : Cp) (mip : BitVec 64) (vO : Value) (O : List Ac) (w : World) (hO : Acs w vO O) (hol : O.length * 32 ≤ 140737488351232) :
    Calls Try.prog 6 #[.agg (cpc k), .int .u64 (n64 mip), vO] w fun e w' => e = .returned (.bool true) ∧ Below w.heap.size w w' := by
  obtain ⟨sa, cap, rfl, hcap, hsl⟩ := hO
  have HSL : Hid (O ≠ [] → ∃ g off, sa = some ⟨g, off, none⟩ ∧ g < w.heap.size ∧ ∀ j, j < O.length → ∀ c, c < 4 → w.cell? ⟨g, off + j * 4 + c, none⟩ = (acv (O.getD j ac0))[c]?) := hsl
  clear hsl hcap
  have HLN : Hid (O.length < 5864062014718) := by show _ < _; omega
  have hz := zero_cpu
  obtain ⟨W0, hW0, r0, b0, s0⟩ := start1 w (cpc k) 31
  have HPD : Hid TPd := hpd
  have HEN : Hid TEn := hen
  have HRT : Hid TRt := hrt
  have HWT : Hid TWt := hwt
  have HEF : Hid TEf := hef
  have R0 : Hid (Row W0 w.heap.size (cpc k) 31) := r0.out
  have B0 : Hid (Below w.heap.size w W0) := b0.out
  have HS : Hid (W0.heap.size = w.heap.size + 1) := s0
  clear s0 r0 b0 hpd hen hrt hwt hef hol
  go_enter Try.func6, Try.ntmps6
  go_upto_region 1 with fail
  clear hW0
  go_upto_region 2 with (first | (refine wpList_load_row (by rfl) _ _ (by rfl) _ (by rfl) 31 _ (0, 0) _ R0.out Try.underlying31 (by rfl) (info_cpu _) ?_) | (refine wpList_store_last (by rfl) _ _ _ (by rfl) (by rfl) _ _ _ (by rfl) (by rfl) (by rfl) (info_cpu _) (by rw [cpc_size, cpc_size]) (cpc_ones _) ?_))
  refine go_onP (motive := fun W => Code.wp _ _ _ _ W) (Q := fun W => Row W w.heap.size (cpc k) 31 ∧ Row W W0.heap.size (cpc k) 31 ∧ Below w.heap.size w W) ⟨R0.out.old R0.out.lt _, Row.new W0 (cpc k) 31, B0.out.alloc B0.out.size _⟩ ?_
  obtain ⟨gp, hgp⟩ : ∃ gp, gp = w.heap.size := ⟨_, rfl⟩
  have HPQ : Hid (w.heap.size ≤ gp ∧ w.heap.size ≤ W0.heap.size ∧ gp ≠ W0.heap.size) := by unfold Hid; rw [hgp, HS.out]; omega
  clear R0 B0 HS hz
  generalize W0.heap.size = gq at *
  rintro W1 ⟨q1, q2, c0⟩
  have Q1 : Hid (Row W1 gp (cpc k) 31) := by rw [hgp]; exact q1
  have Q2 : Hid (Row W1 gq (cpc k) 31) := q2
  have BB : Hid (Below w.heap.size w W1) := c0
  clear q1 q2 c0
  simp only [← hgp]
  have BB : Hid (Below w.heap.size w W1) := BB
  clear hgp
  go_wp2
  go_loopw [8] (fun x wr => ∃ j : Nat, j ≤ O.length ∧ x = .int .i64 j ∧ ∃ K : Cp, Hid (Row wr gp (cpc K) 31) ∧ Hid (Row wr gq (cpc K) 31) ∧ Hid (Below w.heap.size w wr)) (fun x _ => O.length - (intOf x).toNat)
  case atStart => exact ⟨0, Nat.zero_le _, rfl, k, Q1, Q2, BB⟩
  case round =>
    clear Q1 Q2 BB
    obtain ⟨j, hj, rfl, K, g0, g1, gb⟩ := hrel
    have hL := HLN.out
    by_cases hlt : j < O.length
    · obtain ⟨gw, off, rfl, hgw, hcl⟩ := HSL.out (by intro e; rw [e] at hlt; simp at hlt)
      have hlt2 : (j : Int) < O.length := by omega
      have cw : ∀ q, q < 4 → wr.cell? ⟨gw, off + j * 4 + q, none⟩ = (acv (O.getD j ac0))[q]? := fun q hq => (gb.out.cell (p := ⟨gw, off + j * 4 + q, none⟩) hgw).trans (hcl j hlt q hq)
      generalize O.getD j ac0 = X at cw
      clear hcl
      obtain ⟨xk, xc, xt, xn⟩ := X
      have x0 : wr.cell? ⟨gw, off + j * 4, none⟩ = some (.int .i64 xk) := cw 0 (by omega)
      have x1 : wr.cell? ⟨gw, off + j * 4 + 1, none⟩ = some (.int .u64 (n64 xc)) := cw 1 (by omega)
      have x2 : wr.cell? ⟨gw, off + j * 4 + 2, none⟩ = some (.int .u64 (n64 xt)) := cw 2 (by omega)
      have x3 : wr.cell? ⟨gw, off + j * 4 + 3, none⟩ = some (.int .u64 (n64 xn)) := cw 3 (by omega)
      clear cw
      by_cases h1 : xk = 1
      · subst h1
        go_upto_region 10 with fail
        refine go_onP (motive := fun W => Code.wp _ _ _ _ W) (Q := fun W => Row W gp (cpc K) 31 ∧ Row W gq (cpc K) 31 ∧ Row W wr.heap.size #[.int .i64 1, .int .u64 (n64 xc), .int .u64 (n64 xt), .int .u64 (n64 xn)] 40 ∧ Below w.heap.size w W) ⟨g0.out.old g0.out.lt _, g1.out.old g1.out.lt _, Row.new wr _ 40, gb.out.alloc gb.out.size _⟩ ?_
        have NX : Hid (gp < wr.heap.size ∧ gq < wr.heap.size) := ⟨g0.out.lt, g1.out.lt⟩
        clear g0 g1 gb x0 x1 x2 x3
        generalize wr.heap.size = ga at *
        rintro W2 ⟨q1, q2, q3, c0⟩
        have Q1 : Hid (Row W2 gp (cpc K) 31) := q1
        have Q2 : Hid (Row W2 gq (cpc K) 31) := q2
        have Q3 : Hid (Row W2 ga #[.int .i64 1, .int .u64 (n64 xc), .int .u64 (n64 xt), .int .u64 (n64 xn)] 40) := q3
        have BB : Hid (Below w.heap.size w W2) := c0
        clear q1 q2 q3 c0
        have y1 : W2.cell? ⟨ga, 1, none⟩ = some (.int .u64 (n64 xc)) := (Q3.out).cell 1
        have y2 : W2.cell? ⟨ga, 2, none⟩ = some (.int .u64 (n64 xt)) := (Q3.out).cell 2
        have y3 : W2.cell? ⟨ga, 3, none⟩ = some (.int .u64 (n64 xn)) := (Q3.out).cell 3
        have HA : Hid (∀ W, Calls Try.prog 13 #[.agg (cpc K), .int .u64 (n64 xc), .int .u64 (n64 xt)] W fun e w' => e = .returned (.agg (cpc (ENc K xc xt))) ∧ Below W.heap.size W w') := HEN.out K xc xt
        have HB : Hid (∀ W, Calls Try.prog 14 #[.agg (cpc K), .int .u64 (n64 xc), .int .u64 (n64 xt)] W fun e w' => e = .returned (.agg (cpc (ENc K xc xt))) ∧ Below W.heap.size W w') := rEnter_c K xc xt
        generalize ENc K xc xt = K' at HA HB
        go_upto_region 11 with (first | (refine wpList_load_row (by rfl) _ _ (by rfl) _ (by rfl) 31 _ (0, 0) _ Q1.out Try.underlying31 (by rfl) (info_cpu _) ?_) | (go_at_call 13; refine (HA.out _).mono ?_; rintro e w3 ⟨rfl, hb⟩; have Bw3 : Hid (Below W2.heap.size W2 w3) := hb; clear hb) | (refine wpList_store_row (by rfl) _ _ _ (by rfl) (by rfl) _ _ _ (by rfl) (by rfl) (Q1.out.cb Bw3.out) (info_cpu _) (by rw [cpc_size, cpc_size]) (cpc_ones _) ?_))
        refine go_onP (motive := fun W => Code.wp _ _ _ _ W) (Q := fun W => Row W gp (cpc K') 31 ∧ Row W gq (cpc K) 31 ∧ Row W ga #[.int .i64 1, .int .u64 (n64 xc), .int .u64 (n64 xt), .int .u64 (n64 xn)] 40 ∧ Below w.heap.size w W) ⟨setRow_heap _ _ _ _ _ _ (Q1.out.cb Bw3.out), row_apart (Q2.out.cb Bw3.out) (by have := HPQ.out; omega) _, row_apart (Q3.out.cb Bw3.out) (by have := NX.out; omega) _, below_row (BB.out.trans (Bw3.out.mono BB.out.size)) HPQ.out.1 _⟩ ?_
        clear Q1 Q2 Q3 BB Bw3 HA y1 y2 y3
        rintro W4 ⟨q1, q2, q3, c0⟩
        have Q1 : Hid (Row W4 gp (cpc K') 31) := q1
        have Q2 : Hid (Row W4 gq (cpc K) 31) := q2
        have Q3 : Hid (Row W4 ga #[.int .i64 1, .int .u64 (n64 xc), .int .u64 (n64 xt), .int .u64 (n64 xn)] 40) := q3
        have BB : Hid (Below w.heap.size w W4) := c0
        clear q1 q2 q3 c0
        have y1 : W4.cell? ⟨ga, 1, none⟩ = some (.int .u64 (n64 xc)) := (Q3.out).cell 1
        have y2 : W4.cell? ⟨ga, 2, none⟩ = some (.int .u64 (n64 xt)) := (Q3.out).cell 2
        have y3 : W4.cell? ⟨ga, 3, none⟩ = some (.int .u64 (n64 xn)) := (Q3.out).cell 3
        go_upto_region 27 with (first | (refine wpList_load_row (by rfl) _ _ (by rfl) _ (by rfl) 31 _ (0, 0) _ Q2.out Try.underlying31 (by rfl) (info_cpu _) ?_) | (go_at_call 14; refine (HB.out _).mono ?_; rintro e w5 ⟨rfl, hb⟩; have Bw5 : Hid (Below W4.heap.size W4 w5) := hb; clear hb) | (refine wpList_store_row (by rfl) _ _ _ (by rfl) (by rfl) _ _ _ (by rfl) (by rfl) (Q2.out.cb Bw5.out) (info_cpu _) (by rw [cpc_size, cpc_size]) (cpc_ones _) ?_))
        refine go_onP (motive := fun W => Code.wp _ _ _ _ W) (Q := fun W => Row W gp (cpc K') 31 ∧ Row W gq (cpc K') 31 ∧ Below w.heap.size w W) ⟨row_apart (Q1.out.cb Bw5.out) (by have := HPQ.out; omega) _, setRow_heap _ _ _ _ _ _ (Q2.out.cb Bw5.out), below_row (BB.out.trans (Bw5.out.mono BB.out.size)) HPQ.out.2.1 _⟩ ?_
        clear Q1 Q2 Q3 BB Bw5 HB y1 y2 y3
        rintro W5 ⟨q1, q2, c0⟩
        have E1 : Hid (Row W5 gp (cpc K') 31) := q1
        have E2 : Hid (Row W5 gq (cpc K') 31) := q2
        have EB : Hid (Below w.heap.size w W5) := c0
        clear q1 q2 c0
        have HA : Hid (∀ W, Calls Try.prog 15 #[.agg (cpc K'), .int .u64 (n64 mip)] W fun e w' => e = .returned (.tuple #[.int .i64 (PD K' mip).1, .bool (PD K' mip).2]) ∧ Below W.heap.size W w') := HPD.out K' mip
        have HB : Hid (∀ W, Calls Try.prog 16 #[.agg (cpc K'), .int .u64 (n64 mip)] W fun e w' => e = .returned (.tuple #[.int .i64 (PD K' mip).1, .bool (PD K' mip).2]) ∧ Below W.heap.size W w') := rPending_c K' mip
        have HC : Hid (∀ W, Calls Try.prog 9 #[.agg (cpc K')] W fun e w' => e = .returned (.int .i64 (EF K')) ∧ Below W.heap.size W w') := HEF.out K'
        have HE : Hid (∀ W, Calls Try.prog 10 #[.agg (cpc K')] W fun e w' => e = .returned (.int .i64 (EF K')) ∧ Below W.heap.size W w') := rEffective_c K'
        generalize (PD K' mip).1 = z1 at HA HB
        generalize (PD K' mip).2 = z2 at HA HB
        generalize EF K' = z3 at HC HE
        have e1 : (z1 != z1) = false := by simp
        have e2 : (z2 != z2) = false := by simp
        have e3 : (z3 != z3) = false := by simp
        have heq : ∀ W, (Op.equalIn 10000 31 (.agg (cpc K')) (.agg (cpc K'))).run Try.prog W = .ok true W := fun W => eq_cpu W _
        go_upto_region 28 with (first | (refine wpList_load_row (by rfl) _ _ (by rfl) _ (by rfl) 31 _ (0, 0) _ E1.out Try.underlying31 (by rfl) (info_cpu _) ?_) | (go_at_call 15; refine (HA.out _).mono ?_; rintro e w6 ⟨rfl, hb⟩; have Bw6 : Hid (Below W5.heap.size W5 w6) := hb; clear hb))
        have F2 : Hid (Row w6 gq (cpc K') 31) := E2.out.cb Bw6.out
        go_upto_region 29 with (first | (refine wpList_load_row (by rfl) _ _ (by rfl) _ (by rfl) 31 _ (0, 0) _ F2.out Try.underlying31 (by rfl) (info_cpu _) ?_) | (go_at_call 16; refine (HB.out _).mono ?_; rintro e w7 ⟨rfl, hb⟩; have Bw7 : Hid (Below w6.heap.size w6 w7) := hb; clear hb))
        refine go_onP (motive := fun W => Code.wp _ _ _ _ W) (Q := fun W => Row W gp (cpc K') 31 ∧ Row W gq (cpc K') 31 ∧ Below w.heap.size w W) ⟨(E1.out.cb Bw6.out).cb Bw7.out, F2.out.cb Bw7.out, EB.out.trans ((Bw6.out.trans (Bw7.out.mono Bw6.out.size)).mono EB.out.size)⟩ ?_
        clear E1 E2 EB F2 Bw6 Bw7 HA HB
        rintro W8 ⟨q1, q2, c0⟩
        have E1 : Hid (Row W8 gp (cpc K') 31) := q1
        have E2 : Hid (Row W8 gq (cpc K') 31) := q2
        have EB : Hid (Below w.heap.size w W8) := c0
        have L1 : Hid (∀ j v, (cpc K')[j]? = some v → W8.cell? ⟨gp, 0 + j, none⟩ = some v) := q1.cpu.agg
        have L2 : Hid (∀ j v, (cpc K')[j]? = some v → W8.cell? ⟨gq, 0 + j, none⟩ = some v) := q2.cpu.agg
        clear q1 q2 c0
        have hne := later_nonempty W8
        refine wp_region_later (x0 := Later.start W8) (by kernel_rfl) (by kernel_rfl) ?_
        iterate 4 (go_big_quiet_step (fail))
        (refine BigFrame.wpQuiet_want (by rfl) fun K9 hK => ?_; refine quiet_load_agg 31 _ (by rfl) gp 0 (by rfl) (cpc K') _ E1.out.lt L1.out Try.underlying31 (by rfl) (info_cpu _) (hK _ ?_); clear hK K9; simp only [Act.put, List.setIfInBounds_toArray, List.set_cons_succ, List.set_cons_zero])
        (refine BigFrame.wpQuiet_want (by rfl) fun K9 hK => ?_; refine quiet_load_agg 31 _ (by rfl) gq 0 (by rfl) (cpc K') _ E2.out.lt L2.out Try.underlying31 (by rfl) (info_cpu _) (hK _ ?_); clear hK K9; simp only [Act.put, List.setIfInBounds_toArray, List.set_cons_succ, List.set_cons_zero])
        iterate 13 (go_big_quiet_step (fail))
        (refine BigFrame.wpQuiet_want (by rfl) fun K9 hK => ?_; refine quiet_load_agg 31 _ (by rfl) gp 0 (by rfl) (cpc K') _ E1.out.lt L1.out Try.underlying31 (by rfl) (info_cpu _) (hK _ ?_); clear hK K9; simp only [Act.put, List.setIfInBounds_toArray, List.set_cons_succ, List.set_cons_zero])
        go_big_quiet_step (first | (go_at_call 9; exact calls_later (HC.out _)))
        (refine BigFrame.wpQuiet_want (by rfl) fun K9 hK => ?_; refine quiet_load_agg 31 _ (by rfl) gq 0 (by rfl) (cpc K') _ E2.out.lt L2.out Try.underlying31 (by rfl) (info_cpu _) (hK _ ?_); clear hK K9; simp only [Act.put, List.setIfInBounds_toArray, List.set_cons_succ, List.set_cons_zero])
        go_big_quiet_step (first | (go_at_call 10; exact calls_later (HE.out _)))
        iterate 2 (go_big_quiet_step (fail))
        refine wpQuiet_nil ?_
        rintro w' ⟨x9, rfl⟩
        have X1 : Hid (Row x9.1 gp (cpc K') 31) := E1.out.cb x9.below
        have X2 : Hid (Row x9.1 gq (cpc K') 31) := E2.out.cb x9.below
        have XB : Hid (Below w.heap.size w x9.1) := EB.out.trans (x9.below.mono EB.out.size)
        clear E1 E2 EB L1 L2 HC HE hne
        go_wp2
        go_roundw
        case rel => exact ⟨j + 1, hlt, by go_num, K', X1, X2, XB⟩
        case measure => simp [intOf]; omega
      by_cases h2 : xk = 2
      · subst h2
        clear h1
        go_upto_region 13 with fail
        refine go_onP (motive := fun W => Code.wp _ _ _ _ W) (Q := fun W => Row W gp (cpc K) 31 ∧ Row W gq (cpc K) 31 ∧ Row W wr.heap.size #[.int .i64 2, .int .u64 (n64 xc), .int .u64 (n64 xt), .int .u64 (n64 xn)] 40 ∧ Below w.heap.size w W) ⟨g0.out.old g0.out.lt _, g1.out.old g1.out.lt _, Row.new wr _ 40, gb.out.alloc gb.out.size _⟩ ?_
        have NX : Hid (gp < wr.heap.size ∧ gq < wr.heap.size) := ⟨g0.out.lt, g1.out.lt⟩
        clear g0 g1 gb x0 x1 x2 x3
        generalize wr.heap.size = ga at *
        rintro W2 ⟨q1, q2, q3, c0⟩
        have Q1 : Hid (Row W2 gp (cpc K) 31) := q1
        have Q2 : Hid (Row W2 gq (cpc K) 31) := q2
        have Q3 : Hid (Row W2 ga #[.int .i64 2, .int .u64 (n64 xc), .int .u64 (n64 xt), .int .u64 (n64 xn)] 40) := q3
        have BB : Hid (Below w.heap.size w W2) := c0
        clear q1 q2 q3 c0
        have y1 : W2.cell? ⟨ga, 1, none⟩ = some (.int .u64 (n64 xc)) := (Q3.out).cell 1
        have y2 : W2.cell? ⟨ga, 2, none⟩ = some (.int .u64 (n64 xt)) := (Q3.out).cell 2
        have y3 : W2.cell? ⟨ga, 3, none⟩ = some (.int .u64 (n64 xn)) := (Q3.out).cell 3
        have HA : Hid (∀ W, Calls Try.prog 11 #[.agg (cpc K)] W fun e w' => e = .returned (.tuple #[.agg (cpc (RTc K)), .bool (RTk K)]) ∧ Below W.heap.size W w') := HRT.out K
        have HB : Hid (∀ W, Calls Try.prog 12 #[.agg (cpc K)] W fun e w' => e = .returned (.tuple #[.agg (cpc (RTc K)), .bool (RTk K)]) ∧ Below W.heap.size W w') := rReturn_c K
        generalize RTc K = K' at HA HB
        generalize RTk K = z at HA HB
        go_upto_region 14 with (first | (refine wpList_load_row (by rfl) _ _ (by rfl) _ (by rfl) 31 _ (0, 0) _ Q1.out Try.underlying31 (by rfl) (info_cpu _) ?_) | (go_at_call 11; refine (HA.out _).mono ?_; rintro e w3 ⟨rfl, hb⟩; have Bw3 : Hid (Below W2.heap.size W2 w3) := hb; clear hb) | (refine wpList_store_row (by rfl) _ _ _ (by rfl) (by rfl) _ _ _ (by rfl) (by rfl) (Q1.out.cb Bw3.out) (info_cpu _) (by rw [cpc_size, cpc_size]) (cpc_ones _) ?_))
        refine go_onP (motive := fun W => Code.wp _ _ _ _ W) (Q := fun W => Row W gp (cpc K') 31 ∧ Row W gq (cpc K) 31 ∧ Row W ga #[.int .i64 2, .int .u64 (n64 xc), .int .u64 (n64 xt), .int .u64 (n64 xn)] 40 ∧ Below w.heap.size w W) ⟨setRow_heap _ _ _ _ _ _ (Q1.out.cb Bw3.out), row_apart (Q2.out.cb Bw3.out) (by have := HPQ.out; omega) _, row_apart (Q3.out.cb Bw3.out) (by have := NX.out; omega) _, below_row (BB.out.trans (Bw3.out.mono BB.out.size)) HPQ.out.1 _⟩ ?_
        clear Q1 Q2 Q3 BB Bw3 HA y1 y2 y3
        rintro W4 ⟨q1, q2, q3, c0⟩
        have Q1 : Hid (Row W4 gp (cpc K') 31) := q1
        have Q2 : Hid (Row W4 gq (cpc K) 31) := q2
        have Q3 : Hid (Row W4 ga #[.int .i64 2, .int .u64 (n64 xc), .int .u64 (n64 xt), .int .u64 (n64 xn)] 40) := q3
        have BB : Hid (Below w.heap.size w W4) := c0
        clear q1 q2 q3 c0
        have y1 : W4.cell? ⟨ga, 1, none⟩ = some (.int .u64 (n64 xc)) := (Q3.out).cell 1
        have y2 : W4.cell? ⟨ga, 2, none⟩ = some (.int .u64 (n64 xt)) := (Q3.out).cell 2
        have y3 : W4.cell? ⟨ga, 3, none⟩ = some (.int .u64 (n64 xn)) := (Q3.out).cell 3
        go_upto_region 27 with (first | (refine wpList_load_row (by rfl) _ _ (by rfl) _ (by rfl) 31 _ (0, 0) _ Q2.out Try.underlying31 (by rfl) (info_cpu _) ?_) | (go_at_call 12; refine (HB.out _).mono ?_; rintro e w5 ⟨rfl, hb⟩; have Bw5 : Hid (Below W4.heap.size W4 w5) := hb; clear hb) | (refine wpList_store_row (by rfl) _ _ _ (by rfl) (by rfl) _ _ _ (by rfl) (by rfl) (Q2.out.cb Bw5.out) (info_cpu _) (by rw [cpc_size, cpc_size]) (cpc_ones _) ?_))
        refine go_onP (motive := fun W => Code.wp _ _ _ _ W) (Q := fun W => Row W gp (cpc K') 31 ∧ Row W gq (cpc K') 31 ∧ Below w.heap.size w W) ⟨row_apart (Q1.out.cb Bw5.out) (by have := HPQ.out; omega) _, setRow_heap _ _ _ _ _ _ (Q2.out.cb Bw5.out), below_row (BB.out.trans (Bw5.out.mono BB.out.size)) HPQ.out.2.1 _⟩ ?_
        clear Q1 Q2 Q3 BB Bw5 HB y1 y2 y3
        rintro W5 ⟨q1, q2, c0⟩
        have E1 : Hid (Row W5 gp (cpc K') 31) := q1
        have E2 : Hid (Row W5 gq (cpc K') 31) := q2
        have EB : Hid (Below w.heap.size w W5) := c0
        clear q1 q2 c0
        have HA : Hid (∀ W, Calls Try.prog 15 #[.agg (cpc K'), .int .u64 (n64 mip)] W fun e w' => e = .returned (.tuple #[.int .i64 (PD K' mip).1, .bool (PD K' mip).2]) ∧ Below W.heap.size W w') := HPD.out K' mip
        have HB : Hid (∀ W, Calls Try.prog 16 #[.agg (cpc K'), .int .u64 (n64 mip)] W fun e w' => e = .returned (.tuple #[.int .i64 (PD K' mip).1, .bool (PD K' mip).2]) ∧ Below W.heap.size W w') := rPending_c K' mip
        have HC : Hid (∀ W, Calls Try.prog 9 #[.agg (cpc K')] W fun e w' => e = .returned (.int .i64 (EF K')) ∧ Below W.heap.size W w') := HEF.out K'
        have HE : Hid (∀ W, Calls Try.prog 10 #[.agg (cpc K')] W fun e w' => e = .returned (.int .i64 (EF K')) ∧ Below W.heap.size W w') := rEffective_c K'
        generalize (PD K' mip).1 = z1 at HA HB
        generalize (PD K' mip).2 = z2 at HA HB
        generalize EF K' = z3 at HC HE
        have e1 : (z1 != z1) = false := by simp
        have e2 : (z2 != z2) = false := by simp
        have e3 : (z3 != z3) = false := by simp
        have e0 : (z != z) = false := by simp
        have heq : ∀ W, (Op.equalIn 10000 31 (.agg (cpc K')) (.agg (cpc K'))).run Try.prog W = .ok true W := fun W => eq_cpu W _
        go_upto_region 28 with (first | (refine wpList_load_row (by rfl) _ _ (by rfl) _ (by rfl) 31 _ (0, 0) _ E1.out Try.underlying31 (by rfl) (info_cpu _) ?_) | (go_at_call 15; refine (HA.out _).mono ?_; rintro e w6 ⟨rfl, hb⟩; have Bw6 : Hid (Below W5.heap.size W5 w6) := hb; clear hb))
        have F2 : Hid (Row w6 gq (cpc K') 31) := E2.out.cb Bw6.out
        go_upto_region 29 with (first | (refine wpList_load_row (by rfl) _ _ (by rfl) _ (by rfl) 31 _ (0, 0) _ F2.out Try.underlying31 (by rfl) (info_cpu _) ?_) | (go_at_call 16; refine (HB.out _).mono ?_; rintro e w7 ⟨rfl, hb⟩; have Bw7 : Hid (Below w6.heap.size w6 w7) := hb; clear hb))
        refine go_onP (motive := fun W => Code.wp _ _ _ _ W) (Q := fun W => Row W gp (cpc K') 31 ∧ Row W gq (cpc K') 31 ∧ Below w.heap.size w W) ⟨(E1.out.cb Bw6.out).cb Bw7.out, F2.out.cb Bw7.out, EB.out.trans ((Bw6.out.trans (Bw7.out.mono Bw6.out.size)).mono EB.out.size)⟩ ?_
        clear E1 E2 EB F2 Bw6 Bw7 HA HB
        rintro W8 ⟨q1, q2, c0⟩
        have E1 : Hid (Row W8 gp (cpc K') 31) := q1
        have E2 : Hid (Row W8 gq (cpc K') 31) := q2
        have EB : Hid (Below w.heap.size w W8) := c0
        have L1 : Hid (∀ j v, (cpc K')[j]? = some v → W8.cell? ⟨gp, 0 + j, none⟩ = some v) := q1.cpu.agg
        have L2 : Hid (∀ j v, (cpc K')[j]? = some v → W8.cell? ⟨gq, 0 + j, none⟩ = some v) := q2.cpu.agg
        clear q1 q2 c0
        have hne := later_nonempty W8
        refine wp_region_later (x0 := Later.start W8) (by kernel_rfl) (by kernel_rfl) ?_
        iterate 4 (go_big_quiet_step (fail))
        (refine BigFrame.wpQuiet_want (by rfl) fun K9 hK => ?_; refine quiet_load_agg 31 _ (by rfl) gp 0 (by rfl) (cpc K') _ E1.out.lt L1.out Try.underlying31 (by rfl) (info_cpu _) (hK _ ?_); clear hK K9; simp only [Act.put, List.setIfInBounds_toArray, List.set_cons_succ, List.set_cons_zero])
        (refine BigFrame.wpQuiet_want (by rfl) fun K9 hK => ?_; refine quiet_load_agg 31 _ (by rfl) gq 0 (by rfl) (cpc K') _ E2.out.lt L2.out Try.underlying31 (by rfl) (info_cpu _) (hK _ ?_); clear hK K9; simp only [Act.put, List.setIfInBounds_toArray, List.set_cons_succ, List.set_cons_zero])
        iterate 13 (go_big_quiet_step (fail))
        (refine BigFrame.wpQuiet_want (by rfl) fun K9 hK => ?_; refine quiet_load_agg 31 _ (by rfl) gp 0 (by rfl) (cpc K') _ E1.out.lt L1.out Try.underlying31 (by rfl) (info_cpu _) (hK _ ?_); clear hK K9; simp only [Act.put, List.setIfInBounds_toArray, List.set_cons_succ, List.set_cons_zero])
        go_big_quiet_step (first | (go_at_call 9; exact calls_later (HC.out _)))
        (refine BigFrame.wpQuiet_want (by rfl) fun K9 hK => ?_; refine quiet_load_agg 31 _ (by rfl) gq 0 (by rfl) (cpc K') _ E2.out.lt L2.out Try.underlying31 (by rfl) (info_cpu _) (hK _ ?_); clear hK K9; simp only [Act.put, List.setIfInBounds_toArray, List.set_cons_succ, List.set_cons_zero])
        go_big_quiet_step (first | (go_at_call 10; exact calls_later (HE.out _)))
        iterate 2 (go_big_quiet_step (fail))
        refine wpQuiet_nil ?_
        rintro w' ⟨x9, rfl⟩
        have X1 : Hid (Row x9.1 gp (cpc K') 31) := E1.out.cb x9.below
        have X2 : Hid (Row x9.1 gq (cpc K') 31) := E2.out.cb x9.below
        have XB : Hid (Below w.heap.size w x9.1) := EB.out.trans (x9.below.mono EB.out.size)
        clear E1 E2 EB L1 L2 HC HE hne
        go_wp2
        go_roundw
        case rel => exact ⟨j + 1, hlt, by go_num, K', X1, X2, XB⟩
        case measure => simp [intOf]; omega
      by_cases h3 : xk = 3
      · subst h3
        clear h1 h2
        go_upto_region 16 with fail
        refine go_onP (motive := fun W => Code.wp _ _ _ _ W) (Q := fun W => Row W gp (cpc K) 31 ∧ Row W gq (cpc K) 31 ∧ Row W wr.heap.size #[.int .i64 3, .int .u64 (n64 xc), .int .u64 (n64 xt), .int .u64 (n64 xn)] 40 ∧ Below w.heap.size w W) ⟨g0.out.old g0.out.lt _, g1.out.old g1.out.lt _, Row.new wr _ 40, gb.out.alloc gb.out.size _⟩ ?_
        have NX : Hid (gp < wr.heap.size ∧ gq < wr.heap.size) := ⟨g0.out.lt, g1.out.lt⟩
        clear g0 g1 gb x0 x1 x2 x3
        generalize wr.heap.size = ga at *
        rintro W2 ⟨q1, q2, q3, c0⟩
        have Q1 : Hid (Row W2 gp (cpc K) 31) := q1
        have Q2 : Hid (Row W2 gq (cpc K) 31) := q2
        have Q3 : Hid (Row W2 ga #[.int .i64 3, .int .u64 (n64 xc), .int .u64 (n64 xt), .int .u64 (n64 xn)] 40) := q3
        have BB : Hid (Below w.heap.size w W2) := c0
        clear q1 q2 q3 c0
        have y1 : W2.cell? ⟨ga, 1, none⟩ = some (.int .u64 (n64 xc)) := (Q3.out).cell 1
        have y2 : W2.cell? ⟨ga, 2, none⟩ = some (.int .u64 (n64 xt)) := (Q3.out).cell 2
        have y3 : W2.cell? ⟨ga, 3, none⟩ = some (.int .u64 (n64 xn)) := (Q3.out).cell 3
        have HA : Hid (∀ W, Calls Try.prog 7 #[.agg (cpc K)] W fun e w' => e = .returned (.tuple #[.agg (cpc (WTc K)), .bool (WTk K)]) ∧ Below W.heap.size W w') := HWT.out K
        have HB : Hid (∀ W, Calls Try.prog 8 #[.agg (cpc K)] W fun e w' => e = .returned (.tuple #[.agg (cpc (WTc K)), .bool (WTk K)]) ∧ Below W.heap.size W w') := rWait_c K
        generalize WTc K = K' at HA HB
        generalize WTk K = z at HA HB
        go_upto_region 17 with (first | (refine wpList_load_row (by rfl) _ _ (by rfl) _ (by rfl) 31 _ (0, 0) _ Q1.out Try.underlying31 (by rfl) (info_cpu _) ?_) | (go_at_call 7; refine (HA.out _).mono ?_; rintro e w3 ⟨rfl, hb⟩; have Bw3 : Hid (Below W2.heap.size W2 w3) := hb; clear hb) | (refine wpList_store_row (by rfl) _ _ _ (by rfl) (by rfl) _ _ _ (by rfl) (by rfl) (Q1.out.cb Bw3.out) (info_cpu _) (by rw [cpc_size, cpc_size]) (cpc_ones _) ?_))
        refine go_onP (motive := fun W => Code.wp _ _ _ _ W) (Q := fun W => Row W gp (cpc K') 31 ∧ Row W gq (cpc K) 31 ∧ Row W ga #[.int .i64 3, .int .u64 (n64 xc), .int .u64 (n64 xt), .int .u64 (n64 xn)] 40 ∧ Below w.heap.size w W) ⟨setRow_heap _ _ _ _ _ _ (Q1.out.cb Bw3.out), row_apart (Q2.out.cb Bw3.out) (by have := HPQ.out; omega) _, row_apart (Q3.out.cb Bw3.out) (by have := NX.out; omega) _, below_row (BB.out.trans (Bw3.out.mono BB.out.size)) HPQ.out.1 _⟩ ?_
        clear Q1 Q2 Q3 BB Bw3 HA y1 y2 y3
        rintro W4 ⟨q1, q2, q3, c0⟩
        have Q1 : Hid (Row W4 gp (cpc K') 31) := q1
        have Q2 : Hid (Row W4 gq (cpc K) 31) := q2
        have Q3 : Hid (Row W4 ga #[.int .i64 3, .int .u64 (n64 xc), .int .u64 (n64 xt), .int .u64 (n64 xn)] 40) := q3
        have BB : Hid (Below w.heap.size w W4) := c0
        clear q1 q2 q3 c0
        have y1 : W4.cell? ⟨ga, 1, none⟩ = some (.int .u64 (n64 xc)) := (Q3.out).cell 1
        have y2 : W4.cell? ⟨ga, 2, none⟩ = some (.int .u64 (n64 xt)) := (Q3.out).cell 2
        have y3 : W4.cell? ⟨ga, 3, none⟩ = some (.int .u64 (n64 xn)) := (Q3.out).cell 3
        go_upto_region 27 with (first | (refine wpList_load_row (by rfl) _ _ (by rfl) _ (by rfl) 31 _ (0, 0) _ Q2.out Try.underlying31 (by rfl) (info_cpu _) ?_) | (go_at_call 8; refine (HB.out _).mono ?_; rintro e w5 ⟨rfl, hb⟩; have Bw5 : Hid (Below W4.heap.size W4 w5) := hb; clear hb) | (refine wpList_store_row (by rfl) _ _ _ (by rfl) (by rfl) _ _ _ (by rfl) (by rfl) (Q2.out.cb Bw5.out) (info_cpu _) (by rw [cpc_size, cpc_size]) (cpc_ones _) ?_))
        refine go_onP (motive := fun W => Code.wp _ _ _ _ W) (Q := fun W => Row W gp (cpc K') 31 ∧ Row W gq (cpc K') 31 ∧ Below w.heap.size w W) ⟨row_apart (Q1.out.cb Bw5.out) (by have := HPQ.out; omega) _, setRow_heap _ _ _ _ _ _ (Q2.out.cb Bw5.out), below_row (BB.out.trans (Bw5.out.mono BB.out.size)) HPQ.out.2.1 _⟩ ?_
        clear Q1 Q2 Q3 BB Bw5 HB y1 y2 y3
        rintro W5 ⟨q1, q2, c0⟩
        have E1 : Hid (Row W5 gp (cpc K') 31) := q1
        have E2 : Hid (Row W5 gq (cpc K') 31) := q2
        have EB : Hid (Below w.heap.size w W5) := c0
        clear q1 q2 c0
        have HA : Hid (∀ W, Calls Try.prog 15 #[.agg (cpc K'), .int .u64 (n64 mip)] W fun e w' => e = .returned (.tuple #[.int .i64 (PD K' mip).1, .bool (PD K' mip).2]) ∧ Below W.heap.size W w') := HPD.out K' mip
        have HB : Hid (∀ W, Calls Try.prog 16 #[.agg (cpc K'), .int .u64 (n64 mip)] W fun e w' => e = .returned (.tuple #[.int .i64 (PD K' mip).1, .bool (PD K' mip).2]) ∧ Below W.heap.size W w') := rPending_c K' mip
        have HC : Hid (∀ W, Calls Try.prog 9 #[.agg (cpc K')] W fun e w' => e = .returned (.int .i64 (EF K')) ∧ Below W.heap.size W w') := HEF.out K'
        have HE : Hid (∀ W, Calls Try.prog 10 #[.agg (cpc K')] W fun e w' => e = .returned (.int .i64 (EF K')) ∧ Below W.heap.size W w') := rEffective_c K'
        generalize (PD K' mip).1 = z1 at HA HB
        generalize (PD K' mip).2 = z2 at HA HB
        generalize EF K' = z3 at HC HE
        have e1 : (z1 != z1) = false := by simp
        have e2 : (z2 != z2) = false := by simp
        have e3 : (z3 != z3) = false := by simp
        have e0 : (z != z) = false := by simp
        have heq : ∀ W, (Op.equalIn 10000 31 (.agg (cpc K')) (.agg (cpc K'))).run Try.prog W = .ok true W := fun W => eq_cpu W _
        go_upto_region 28 with (first | (refine wpList_load_row (by rfl) _ _ (by rfl) _ (by rfl) 31 _ (0, 0) _ E1.out Try.underlying31 (by rfl) (info_cpu _) ?_) | (go_at_call 15; refine (HA.out _).mono ?_; rintro e w6 ⟨rfl, hb⟩; have Bw6 : Hid (Below W5.heap.size W5 w6) := hb; clear hb))
        have F2 : Hid (Row w6 gq (cpc K') 31) := E2.out.cb Bw6.out
        go_upto_region 29 with (first | (refine wpList_load_row (by rfl) _ _ (by rfl) _ (by rfl) 31 _ (0, 0) _ F2.out Try.underlying31 (by rfl) (info_cpu _) ?_) | (go_at_call 16; refine (HB.out _).mono ?_; rintro e w7 ⟨rfl, hb⟩; have Bw7 : Hid (Below w6.heap.size w6 w7) := hb; clear hb))
        refine go_onP (motive := fun W => Code.wp _ _ _ _ W) (Q := fun W => Row W gp (cpc K') 31 ∧ Row W gq (cpc K') 31 ∧ Below w.heap.size w W) ⟨(E1.out.cb Bw6.out).cb Bw7.out, F2.out.cb Bw7.out, EB.out.trans ((Bw6.out.trans (Bw7.out.mono Bw6.out.size)).mono EB.out.size)⟩ ?_
        clear E1 E2 EB F2 Bw6 Bw7 HA HB
        rintro W8 ⟨q1, q2, c0⟩
        have E1 : Hid (Row W8 gp (cpc K') 31) := q1
        have E2 : Hid (Row W8 gq (cpc K') 31) := q2
        have EB : Hid (Below w.heap.size w W8) := c0
        have L1 : Hid (∀ j v, (cpc K')[j]? = some v → W8.cell? ⟨gp, 0 + j, none⟩ = some v) := q1.cpu.agg
        have L2 : Hid (∀ j v, (cpc K')[j]? = some v → W8.cell? ⟨gq, 0 + j, none⟩ = some v) := q2.cpu.agg
        clear q1 q2 c0
        have hne := later_nonempty W8
        refine wp_region_later (x0 := Later.start W8) (by kernel_rfl) (by kernel_rfl) ?_
        iterate 4 (go_big_quiet_step (fail))
        (refine BigFrame.wpQuiet_want (by rfl) fun K9 hK => ?_; refine quiet_load_agg 31 _ (by rfl) gp 0 (by rfl) (cpc K') _ E1.out.lt L1.out Try.underlying31 (by rfl) (info_cpu _) (hK _ ?_); clear hK K9; simp only [Act.put, List.setIfInBounds_toArray, List.set_cons_succ, List.set_cons_zero])
        (refine BigFrame.wpQuiet_want (by rfl) fun K9 hK => ?_; refine quiet_load_agg 31 _ (by rfl) gq 0 (by rfl) (cpc K') _ E2.out.lt L2.out Try.underlying31 (by rfl) (info_cpu _) (hK _ ?_); clear hK K9; simp only [Act.put, List.setIfInBounds_toArray, List.set_cons_succ, List.set_cons_zero])
        iterate 13 (go_big_quiet_step (fail))
        (refine BigFrame.wpQuiet_want (by rfl) fun K9 hK => ?_; refine quiet_load_agg 31 _ (by rfl) gp 0 (by rfl) (cpc K') _ E1.out.lt L1.out Try.underlying31 (by rfl) (info_cpu _) (hK _ ?_); clear hK K9; simp only [Act.put, List.setIfInBounds_toArray, List.set_cons_succ, List.set_cons_zero])
        go_big_quiet_step (first | (go_at_call 9; exact calls_later (HC.out _)))
        (refine BigFrame.wpQuiet_want (by rfl) fun K9 hK => ?_; refine quiet_load_agg 31 _ (by rfl) gq 0 (by rfl) (cpc K') _ E2.out.lt L2.out Try.underlying31 (by rfl) (info_cpu _) (hK _ ?_); clear hK K9; simp only [Act.put, List.setIfInBounds_toArray, List.set_cons_succ, List.set_cons_zero])
        go_big_quiet_step (first | (go_at_call 10; exact calls_later (HE.out _)))
        iterate 2 (go_big_quiet_step (fail))
        refine wpQuiet_nil ?_
        rintro w' ⟨x9, rfl⟩
        have X1 : Hid (Row x9.1 gp (cpc K') 31) := E1.out.cb x9.below
        have X2 : Hid (Row x9.1 gq (cpc K') 31) := E2.out.cb x9.below
        have XB : Hid (Below w.heap.size w x9.1) := EB.out.trans (x9.below.mono EB.out.size)
        clear E1 E2 EB L1 L2 HC HE hne
        go_wp2
        go_roundw
        case rel => exact ⟨j + 1, hlt, by go_num, K', X1, X2, XB⟩
        case measure => simp [intOf]; omega
      by_cases h4 : xk = 4
      · subst h4
        clear h1 h2 h3
        go_upto_region 19 with fail
        refine go_onP (motive := fun W => Code.wp _ _ _ _ W) (Q := fun W => Row W gp (cpc K) 31 ∧ Row W gq (cpc K) 31 ∧ Row W wr.heap.size #[.int .i64 4, .int .u64 (n64 xc), .int .u64 (n64 xt), .int .u64 (n64 xn)] 40 ∧ Below w.heap.size w W) ⟨g0.out.old g0.out.lt _, g1.out.old g1.out.lt _, Row.new wr _ 40, gb.out.alloc gb.out.size _⟩ ?_
        have NX : Hid (gp < wr.heap.size ∧ gq < wr.heap.size) := ⟨g0.out.lt, g1.out.lt⟩
        clear g0 g1 gb x0 x1 x2 x3
        generalize wr.heap.size = ga at *
        rintro W2 ⟨q1, q2, q3, c0⟩
        have Q1 : Hid (Row W2 gp (cpc K) 31) := q1
        have Q2 : Hid (Row W2 gq (cpc K) 31) := q2
        have Q3 : Hid (Row W2 ga #[.int .i64 4, .int .u64 (n64 xc), .int .u64 (n64 xt), .int .u64 (n64 xn)] 40) := q3
        have BB : Hid (Below w.heap.size w W2) := c0
        clear q1 q2 q3 c0
        have y1 : W2.cell? ⟨ga, 1, none⟩ = some (.int .u64 (n64 xc)) := (Q3.out).cell 1
        have y2 : W2.cell? ⟨ga, 2, none⟩ = some (.int .u64 (n64 xt)) := (Q3.out).cell 2
        have y3 : W2.cell? ⟨ga, 3, none⟩ = some (.int .u64 (n64 xn)) := (Q3.out).cell 3
        have f1 := Q1.out.froz
        have f2 := Q2.out.froz
        have p0 := Q1.out.cls.s0
        have p1 := Q1.out.cls.s1
        have p2 := Q1.out.cls.s2
        have p7 := Q1.out.cls.s7
        go_upto_region 23 with fail
        have Q := (((Q1.out.put (i := 35) (.int .u64 (n64 xn))).put (i := 36) (.int .u64 (n64 xt))).put (i := 37) (.int .u64 (n64 xc))).put (i := 42) (.int .u64 (n64 xn))
        rw [cpc_s0, cpc_s1, cpc_s2, cpc_s7] at Q
        refine go_onP (motive := fun W => Code.wp _ _ _ _ W) (Q := fun W => Row W gp (cpc (setK K xc xt xn)) 31 ∧ Row W gq (cpc K) 31 ∧ Row W ga #[.int .i64 4, .int .u64 (n64 xc), .int .u64 (n64 xt), .int .u64 (n64 xn)] 40 ∧ Below w.heap.size w W) ⟨Q, Row.other (Row.other (Row.other (Row.other Q2.out (by have := HPQ.out; omega) _) (by have := HPQ.out; omega) _) (by have := HPQ.out; omega) _) (by have := HPQ.out; omega) _, Row.other (Row.other (Row.other (Row.other Q3.out (by have := NX.out; omega) _) (by have := NX.out; omega) _) (by have := NX.out; omega) _) (by have := NX.out; omega) _, below_put (below_put (below_put (below_put BB.out HPQ.out.1 _) HPQ.out.1 _) HPQ.out.1 _) HPQ.out.1 _⟩ ?_
        clear Q Q1 Q2 Q3 BB y1 y2 y3 f1 f2 p0 p1 p2 p7
        rintro W4 ⟨q1, q2, q3, c0⟩
        have Q1 : Hid (Row W4 gp (cpc (setK K xc xt xn)) 31) := q1
        have Q2 : Hid (Row W4 gq (cpc K) 31) := q2
        have Q3 : Hid (Row W4 ga #[.int .i64 4, .int .u64 (n64 xc), .int .u64 (n64 xt), .int .u64 (n64 xn)] 40) := q3
        have BB : Hid (Below w.heap.size w W4) := c0
        clear q1 q2 q3 c0
        have y1 : W4.cell? ⟨ga, 1, none⟩ = some (.int .u64 (n64 xc)) := (Q3.out).cell 1
        have y2 : W4.cell? ⟨ga, 2, none⟩ = some (.int .u64 (n64 xt)) := (Q3.out).cell 2
        have y3 : W4.cell? ⟨ga, 3, none⟩ = some (.int .u64 (n64 xn)) := (Q3.out).cell 3
        have f2 := Q2.out.froz
        have p0 := Q2.out.cls.s0
        have p1 := Q2.out.cls.s1
        have p2 := Q2.out.cls.s2
        have p7 := Q2.out.cls.s7
        go_upto_region 27 with fail
        have Q := (((Q2.out.put (i := 35) (.int .u64 (n64 xn))).put (i := 36) (.int .u64 (n64 xt))).put (i := 37) (.int .u64 (n64 xc))).put (i := 42) (.int .u64 (n64 xn))
        rw [cpc_s0, cpc_s1, cpc_s2, cpc_s7] at Q
        generalize HK : setK K xc xt xn = K' at Q1
        refine go_onP (motive := fun W => Code.wp _ _ _ _ W) (Q := fun W => Row W gp (cpc K') 31 ∧ Row W gq (cpc K') 31 ∧ Below w.heap.size w W) ⟨Row.other (Row.other (Row.other (Row.other Q1.out (by have := HPQ.out; omega) _) (by have := HPQ.out; omega) _) (by have := HPQ.out; omega) _) (by have := HPQ.out; omega) _, by rw [← HK]; exact Q, below_put (below_put (below_put (below_put BB.out HPQ.out.2.1 _) HPQ.out.2.1 _) HPQ.out.2.1 _) HPQ.out.2.1 _⟩ ?_
        clear Q Q1 Q2 Q3 BB y1 y2 y3 f2 p0 p1 p2 p7 HK
        rintro W5 ⟨q1, q2, c0⟩
        have E1 : Hid (Row W5 gp (cpc K') 31) := q1
        have E2 : Hid (Row W5 gq (cpc K') 31) := q2
        have EB : Hid (Below w.heap.size w W5) := c0
        clear q1 q2 c0
        have HA : Hid (∀ W, Calls Try.prog 15 #[.agg (cpc K'), .int .u64 (n64 mip)] W fun e w' => e = .returned (.tuple #[.int .i64 (PD K' mip).1, .bool (PD K' mip).2]) ∧ Below W.heap.size W w') := HPD.out K' mip
        have HB : Hid (∀ W, Calls Try.prog 16 #[.agg (cpc K'), .int .u64 (n64 mip)] W fun e w' => e = .returned (.tuple #[.int .i64 (PD K' mip).1, .bool (PD K' mip).2]) ∧ Below W.heap.size W w') := rPending_c K' mip
        have HC : Hid (∀ W, Calls Try.prog 9 #[.agg (cpc K')] W fun e w' => e = .returned (.int .i64 (EF K')) ∧ Below W.heap.size W w') := HEF.out K'
        have HE : Hid (∀ W, Calls Try.prog 10 #[.agg (cpc K')] W fun e w' => e = .returned (.int .i64 (EF K')) ∧ Below W.heap.size W w') := rEffective_c K'
        generalize (PD K' mip).1 = z1 at HA HB
        generalize (PD K' mip).2 = z2 at HA HB
        generalize EF K' = z3 at HC HE
        have e1 : (z1 != z1) = false := by simp
        have e2 : (z2 != z2) = false := by simp
        have e3 : (z3 != z3) = false := by simp
        have heq : ∀ W, (Op.equalIn 10000 31 (.agg (cpc K')) (.agg (cpc K'))).run Try.prog W = .ok true W := fun W => eq_cpu W _
        go_upto_region 28 with (first | (refine wpList_load_row (by rfl) _ _ (by rfl) _ (by rfl) 31 _ (0, 0) _ E1.out Try.underlying31 (by rfl) (info_cpu _) ?_) | (go_at_call 15; refine (HA.out _).mono ?_; rintro e w6 ⟨rfl, hb⟩; have Bw6 : Hid (Below W5.heap.size W5 w6) := hb; clear hb))
        have F2 : Hid (Row w6 gq (cpc K') 31) := E2.out.cb Bw6.out
        go_upto_region 29 with (first | (refine wpList_load_row (by rfl) _ _ (by rfl) _ (by rfl) 31 _ (0, 0) _ F2.out Try.underlying31 (by rfl) (info_cpu _) ?_) | (go_at_call 16; refine (HB.out _).mono ?_; rintro e w7 ⟨rfl, hb⟩; have Bw7 : Hid (Below w6.heap.size w6 w7) := hb; clear hb))
        refine go_onP (motive := fun W => Code.wp _ _ _ _ W) (Q := fun W => Row W gp (cpc K') 31 ∧ Row W gq (cpc K') 31 ∧ Below w.heap.size w W) ⟨(E1.out.cb Bw6.out).cb Bw7.out, F2.out.cb Bw7.out, EB.out.trans ((Bw6.out.trans (Bw7.out.mono Bw6.out.size)).mono EB.out.size)⟩ ?_
        clear E1 E2 EB F2 Bw6 Bw7 HA HB
        rintro W8 ⟨q1, q2, c0⟩
        have E1 : Hid (Row W8 gp (cpc K') 31) := q1
        have E2 : Hid (Row W8 gq (cpc K') 31) := q2
        have EB : Hid (Below w.heap.size w W8) := c0
        have L1 : Hid (∀ j v, (cpc K')[j]? = some v → W8.cell? ⟨gp, 0 + j, none⟩ = some v) := q1.cpu.agg
        have L2 : Hid (∀ j v, (cpc K')[j]? = some v → W8.cell? ⟨gq, 0 + j, none⟩ = some v) := q2.cpu.agg
        clear q1 q2 c0
        have hne := later_nonempty W8
        refine wp_region_later (x0 := Later.start W8) (by kernel_rfl) (by kernel_rfl) ?_
        iterate 4 (go_big_quiet_step (fail))
        (refine BigFrame.wpQuiet_want (by rfl) fun K9 hK => ?_; refine quiet_load_agg 31 _ (by rfl) gp 0 (by rfl) (cpc K') _ E1.out.lt L1.out Try.underlying31 (by rfl) (info_cpu _) (hK _ ?_); clear hK K9; simp only [Act.put, List.setIfInBounds_toArray, List.set_cons_succ, List.set_cons_zero])
        (refine BigFrame.wpQuiet_want (by rfl) fun K9 hK => ?_; refine quiet_load_agg 31 _ (by rfl) gq 0 (by rfl) (cpc K') _ E2.out.lt L2.out Try.underlying31 (by rfl) (info_cpu _) (hK _ ?_); clear hK K9; simp only [Act.put, List.setIfInBounds_toArray, List.set_cons_succ, List.set_cons_zero])
        iterate 13 (go_big_quiet_step (fail))
        (refine BigFrame.wpQuiet_want (by rfl) fun K9 hK => ?_; refine quiet_load_agg 31 _ (by rfl) gp 0 (by rfl) (cpc K') _ E1.out.lt L1.out Try.underlying31 (by rfl) (info_cpu _) (hK _ ?_); clear hK K9; simp only [Act.put, List.setIfInBounds_toArray, List.set_cons_succ, List.set_cons_zero])
        go_big_quiet_step (first | (go_at_call 9; exact calls_later (HC.out _)))
        (refine BigFrame.wpQuiet_want (by rfl) fun K9 hK => ?_; refine quiet_load_agg 31 _ (by rfl) gq 0 (by rfl) (cpc K') _ E2.out.lt L2.out Try.underlying31 (by rfl) (info_cpu _) (hK _ ?_); clear hK K9; simp only [Act.put, List.setIfInBounds_toArray, List.set_cons_succ, List.set_cons_zero])
        go_big_quiet_step (first | (go_at_call 10; exact calls_later (HE.out _)))
        iterate 2 (go_big_quiet_step (fail))
        refine wpQuiet_nil ?_
        rintro w' ⟨x9, rfl⟩
        have X1 : Hid (Row x9.1 gp (cpc K') 31) := E1.out.cb x9.below
        have X2 : Hid (Row x9.1 gq (cpc K') 31) := E2.out.cb x9.below
        have XB : Hid (Below w.heap.size w x9.1) := EB.out.trans (x9.below.mono EB.out.size)
        clear E1 E2 EB L1 L2 HC HE hne
        go_wp2
        go_roundw
        case rel => exact ⟨j + 1, hlt, by go_num, K', X1, X2, XB⟩
        case measure => simp [intOf]; omega
      · have k1 : (xk == 1) = false := by simp [h1]
        have k2 : (xk == 2) = false := by simp [h2]
        have k3 : (xk == 3) = false := by simp [h3]
        have k4 : (xk == 4) = false := by simp [h4]
        go_upto_region 27 with fail
        refine go_onP (motive := fun W => Code.wp _ _ _ _ W) (Q := fun W => Row W gp (cpc K) 31 ∧ Row W gq (cpc K) 31 ∧ Row W wr.heap.size #[.int .i64 xk, .int .u64 (n64 xc), .int .u64 (n64 xt), .int .u64 (n64 xn)] 40 ∧ Below w.heap.size w W) ⟨g0.out.old g0.out.lt _, g1.out.old g1.out.lt _, Row.new wr _ 40, gb.out.alloc gb.out.size _⟩ ?_
        have NX : Hid (gp < wr.heap.size ∧ gq < wr.heap.size) := ⟨g0.out.lt, g1.out.lt⟩
        clear g0 g1 gb x0 x1 x2 x3
        generalize wr.heap.size = ga at *
        rintro W2 ⟨q1, q2, q3, c0⟩
        have Q1 : Hid (Row W2 gp (cpc K) 31) := q1
        have Q2 : Hid (Row W2 gq (cpc K) 31) := q2
        have Q3 : Hid (Row W2 ga #[.int .i64 xk, .int .u64 (n64 xc), .int .u64 (n64 xt), .int .u64 (n64 xn)] 40) := q3
        have BB : Hid (Below w.heap.size w W2) := c0
        clear q1 q2 q3 c0
        refine go_onP (motive := fun W => Code.wp _ _ _ _ W) (Q := fun W => Row W gp (cpc K) 31 ∧ Row W gq (cpc K) 31 ∧ Below w.heap.size w W) ⟨Q1.out, Q2.out, BB.out⟩ ?_
        clear Q1 Q2 Q3 BB
        generalize K = K'
        rintro W5 ⟨q1, q2, c0⟩
        have E1 : Hid (Row W5 gp (cpc K') 31) := q1
        have E2 : Hid (Row W5 gq (cpc K') 31) := q2
        have EB : Hid (Below w.heap.size w W5) := c0
        clear q1 q2 c0
        have HA : Hid (∀ W, Calls Try.prog 15 #[.agg (cpc K'), .int .u64 (n64 mip)] W fun e w' => e = .returned (.tuple #[.int .i64 (PD K' mip).1, .bool (PD K' mip).2]) ∧ Below W.heap.size W w') := HPD.out K' mip
        have HB : Hid (∀ W, Calls Try.prog 16 #[.agg (cpc K'), .int .u64 (n64 mip)] W fun e w' => e = .returned (.tuple #[.int .i64 (PD K' mip).1, .bool (PD K' mip).2]) ∧ Below W.heap.size W w') := rPending_c K' mip
        have HC : Hid (∀ W, Calls Try.prog 9 #[.agg (cpc K')] W fun e w' => e = .returned (.int .i64 (EF K')) ∧ Below W.heap.size W w') := HEF.out K'
        have HE : Hid (∀ W, Calls Try.prog 10 #[.agg (cpc K')] W fun e w' => e = .returned (.int .i64 (EF K')) ∧ Below W.heap.size W w') := rEffective_c K'
        generalize (PD K' mip).1 = z1 at HA HB
        generalize (PD K' mip).2 = z2 at HA HB
        generalize EF K' = z3 at HC HE
        have e1 : (z1 != z1) = false := by simp
        have e2 : (z2 != z2) = false := by simp
        have e3 : (z3 != z3) = false := by simp
        have heq : ∀ W, (Op.equalIn 10000 31 (.agg (cpc K')) (.agg (cpc K'))).run Try.prog W = .ok true W := fun W => eq_cpu W _
        go_upto_region 28 with (first | (refine wpList_load_row (by rfl) _ _ (by rfl) _ (by rfl) 31 _ (0, 0) _ E1.out Try.underlying31 (by rfl) (info_cpu _) ?_) | (go_at_call 15; refine (HA.out _).mono ?_; rintro e w6 ⟨rfl, hb⟩; have Bw6 : Hid (Below W5.heap.size W5 w6) := hb; clear hb))
        have F2 : Hid (Row w6 gq (cpc K') 31) := E2.out.cb Bw6.out
        go_upto_region 29 with (first | (refine wpList_load_row (by rfl) _ _ (by rfl) _ (by rfl) 31 _ (0, 0) _ F2.out Try.underlying31 (by rfl) (info_cpu _) ?_) | (go_at_call 16; refine (HB.out _).mono ?_; rintro e w7 ⟨rfl, hb⟩; have Bw7 : Hid (Below w6.heap.size w6 w7) := hb; clear hb))
        refine go_onP (motive := fun W => Code.wp _ _ _ _ W) (Q := fun W => Row W gp (cpc K') 31 ∧ Row W gq (cpc K') 31 ∧ Below w.heap.size w W) ⟨(E1.out.cb Bw6.out).cb Bw7.out, F2.out.cb Bw7.out, EB.out.trans ((Bw6.out.trans (Bw7.out.mono Bw6.out.size)).mono EB.out.size)⟩ ?_
        clear E1 E2 EB F2 Bw6 Bw7 HA HB
        rintro W8 ⟨q1, q2, c0⟩
        have E1 : Hid (Row W8 gp (cpc K') 31) := q1
        have E2 : Hid (Row W8 gq (cpc K') 31) := q2
        have EB : Hid (Below w.heap.size w W8) := c0
        have L1 : Hid (∀ j v, (cpc K')[j]? = some v → W8.cell? ⟨gp, 0 + j, none⟩ = some v) := q1.cpu.agg
        have L2 : Hid (∀ j v, (cpc K')[j]? = some v → W8.cell? ⟨gq, 0 + j, none⟩ = some v) := q2.cpu.agg
        clear q1 q2 c0
        have hne := later_nonempty W8
        refine wp_region_later (x0 := Later.start W8) (by kernel_rfl) (by kernel_rfl) ?_
        iterate 4 (go_big_quiet_step (fail))
        (refine BigFrame.wpQuiet_want (by rfl) fun K9 hK => ?_; refine quiet_load_agg 31 _ (by rfl) gp 0 (by rfl) (cpc K') _ E1.out.lt L1.out Try.underlying31 (by rfl) (info_cpu _) (hK _ ?_); clear hK K9; simp only [Act.put, List.setIfInBounds_toArray, List.set_cons_succ, List.set_cons_zero])
        (refine BigFrame.wpQuiet_want (by rfl) fun K9 hK => ?_; refine quiet_load_agg 31 _ (by rfl) gq 0 (by rfl) (cpc K') _ E2.out.lt L2.out Try.underlying31 (by rfl) (info_cpu _) (hK _ ?_); clear hK K9; simp only [Act.put, List.setIfInBounds_toArray, List.set_cons_succ, List.set_cons_zero])
        iterate 13 (go_big_quiet_step (fail))
        (refine BigFrame.wpQuiet_want (by rfl) fun K9 hK => ?_; refine quiet_load_agg 31 _ (by rfl) gp 0 (by rfl) (cpc K') _ E1.out.lt L1.out Try.underlying31 (by rfl) (info_cpu _) (hK _ ?_); clear hK K9; simp only [Act.put, List.setIfInBounds_toArray, List.set_cons_succ, List.set_cons_zero])
        go_big_quiet_step (first | (go_at_call 9; exact calls_later (HC.out _)))
        (refine BigFrame.wpQuiet_want (by rfl) fun K9 hK => ?_; refine quiet_load_agg 31 _ (by rfl) gq 0 (by rfl) (cpc K') _ E2.out.lt L2.out Try.underlying31 (by rfl) (info_cpu _) (hK _ ?_); clear hK K9; simp only [Act.put, List.setIfInBounds_toArray, List.set_cons_succ, List.set_cons_zero])
        go_big_quiet_step (first | (go_at_call 10; exact calls_later (HE.out _)))
        iterate 2 (go_big_quiet_step (fail))
        refine wpQuiet_nil ?_
        rintro w' ⟨x9, rfl⟩
        have X1 : Hid (Row x9.1 gp (cpc K') 31) := E1.out.cb x9.below
        have X2 : Hid (Row x9.1 gq (cpc K') 31) := E2.out.cb x9.below
        have XB : Hid (Below w.heap.size w x9.1) := EB.out.trans (x9.below.mono EB.out.size)
        clear E1 E2 EB L1 L2 HC HE hne
        go_wp2
        go_roundw
        case rel => exact ⟨j + 1, hlt, by go_num, K', X1, X2, XB⟩
        case measure => simp [intOf]; omega
    · obtain rfl : j = O.length := by omega
      go_wp2
      go_ret
      exact ⟨rfl, gb.out⟩
end Go.Proofs.Ytnejdfkmnblfeab
