/-
  CsrRuns: its walk.
-/
import Derived.Test.YtnnkeodiacdmaabCrn
namespace Go.Proofs.Ytnnkeodiacdmaab
set_option linter.unusedVariables false
open Go.ChangeShapes Go.WideShapes Go.ChangeAt Go.RowKit Go.Deep

set_option maxRecDepth 100000 in
set_option maxHeartbeats 4000000 in
theorem cruns_walk (hp : CPr) (hr : CRd) (hw : CWr) (k : Cp) (m t : BitVec 64) (vO : Value) (O : List Stp) (w : World) (hO : Stps w vO O) (hol : O.length * 24 ≤ 140737488351232) (hok : ∀ j, j < O.length → I64 (O.getD j stp0).i) :
    Calls Try.prog 7 #[.agg (runk k m t vO)] w fun e w' => e = .returned (.bool true) ∧ Below w.heap.size w w' := by
  obtain ⟨sa, cap, rfl, hcap, hsl⟩ := hO
  have HSL : Hid (O ≠ [] → ∃ g off, sa = some ⟨g, off, none⟩ ∧ g < w.heap.size ∧ ∀ j, j < O.length → ∀ c, c < 3 → w.cell? ⟨g, off + j * 3 + c, none⟩ = (stpv (O.getD j stp0))[c]?) := hsl
  clear hsl hcap
  have HLN : Hid (O.length < 5864062014718) := by show _ < _; omega
  have hz := zero_cpu
  obtain ⟨W0, hW0, r0, b0, s0⟩ := start1 w (runk k m t (.slice sa O.length cap)) 47
  have hlt0 : Hid (w.heap.size < W0.heap.size) := by unfold Hid; omega
  have HP : Hid CPr := hp
  have HR : Hid CRd := hr
  have HWW : Hid CWr := hw
  have HOK : Hid (∀ j, j < O.length → I64 (O.getD j stp0).i) := hok
  have R0 : Hid (Row W0 w.heap.size (runk k m t (.slice sa O.length cap)) 47) := r0.out
  have B0 : Hid (Below w.heap.size w W0) := b0.out
  have HL : Hid (∀ j v, (cpc k)[j]? = some v → W0.cell? ⟨w.heap.size, 0 + j, none⟩ = some v) := r0.out.runk.1.agg
  clear s0 r0 b0 hp hr hw hol hok
  go_enter Try.func7, Try.ntmps7
  go_upto_region 1 with fail
  clear hW0
  go_upto_region 2 with (first | (refine wpList_load_agg (by rfl) 31 _ (by rfl) w.heap.size 0 (by rfl) (cpc k) _ HL.out Try.underlying31 (by rfl) (info_cpu _) ?_) | (refine wpList_store_last (by rfl) _ _ _ (by rfl) (by rfl) _ _ _ (by rfl) (by rfl) (by rfl) (info_cpu _) (by rw [cpc_size, cpc_size]) (cpc_ones _) ?_))
  refine go_onP (motive := fun W => Code.wp _ _ _ _ W) (Q := fun W => Row W w.heap.size (runk k m t (.slice sa O.length cap)) 47 ∧ Row W W0.heap.size (cpc k) 31 ∧ Below W0.heap.size W0 W) ⟨R0.out.old R0.out.lt _, Row.new W0 (cpc k) 31, (Below.refl _ _).alloc (Nat.le_refl _) _⟩ ?_
  clear HL
  rintro W1 ⟨q0, q1, c0⟩
  have Q0 : Hid (Row W1 w.heap.size (runk k m t (.slice sa O.length cap)) 47) := q0
  have Q1 : Hid (Row W1 W0.heap.size (cpc k) 31) := q1
  have BB : Hid (Below W0.heap.size W0 W1) := c0
  have HL : Hid (∀ j v, (cpc k)[j]? = some v → W1.cell? ⟨w.heap.size, 0 + j, none⟩ = some v) := q0.runk.1.agg
  clear q0 q1 c0
  go_upto_region 3 with (first | (refine wpList_load_agg (by rfl) 31 _ (by rfl) w.heap.size 0 (by rfl) (cpc k) _ HL.out Try.underlying31 (by rfl) (info_cpu _) ?_) | (refine wpList_store_last (by rfl) _ _ _ (by rfl) (by rfl) _ _ _ (by rfl) (by rfl) (by rfl) (info_cpu _) (by rw [cpc_size, cpc_size]) (cpc_ones _) ?_))
  refine go_onP (motive := fun W => Code.wp _ _ _ _ W) (Q := fun W => Row W W0.heap.size (cpc k) 31 ∧ Row W W1.heap.size (cpc k) 31 ∧ Below W0.heap.size W0 W) ⟨Q1.out.old Q1.out.lt _, Row.new W1 (cpc k) 31, BB.out.alloc BB.out.size _⟩ ?_
  have HPQ : Hid (W0.heap.size ≤ W0.heap.size ∧ W0.heap.size ≤ W1.heap.size ∧ W0.heap.size ≠ W1.heap.size ∧ w.heap.size < W0.heap.size) := ⟨Nat.le_refl _, BB.out.size, by have := Q1.out.lt; omega, hlt0.out⟩
  clear HL Q0 Q1 BB hz
  rintro W2 ⟨q1, q2, c0⟩
  have Q1 : Hid (Row W2 W0.heap.size (cpc k) 31) := q1
  have Q2 : Hid (Row W2 W1.heap.size (cpc k) 31) := q2
  have BB : Hid (Below W0.heap.size W0 W2) := c0
  clear q1 q2 c0
  generalize W1.heap.size = gq at *
  obtain ⟨gp, hgp⟩ : ∃ gp, gp = W0.heap.size := ⟨_, rfl⟩
  have HPQ : Hid (W0.heap.size ≤ gp ∧ W0.heap.size ≤ gq ∧ gp ≠ gq ∧ w.heap.size < W0.heap.size) := by rw [hgp]; exact HPQ
  rw [← hgp]
  have Q1 : Hid (Row W2 gp (cpc k) 31) := by rw [hgp]; exact Q1
  clear hgp
  go_wp2
  go_loopw [5] (fun x wr => ∃ j : Nat, j ≤ O.length ∧ x = .int .i64 j ∧ ∃ K : Cp, Hid (Row wr gp (cpc K) 31) ∧ Hid (Row wr gq (cpc K) 31) ∧ Hid (Below W0.heap.size W0 wr)) (fun x _ => O.length - (intOf x).toNat)
  case atStart => exact ⟨0, Nat.zero_le _, rfl, k, Q1, Q2, BB⟩
  case round =>
    clear Q1 Q2 BB
    obtain ⟨j, hj, rfl, K, g0, g1, gb⟩ := hrel
    obtain ⟨_, c1, c2, c3⟩ := (R0.out.cb gb.out).runk
    clear c1 c2
    have hL := HLN.out
    by_cases hlt : j < O.length
    · obtain ⟨gw, off, rfl, hgw, hcl⟩ := HSL.out (by intro e; rw [e] at hlt; simp at hlt)
      have hlt2 : (j : Int) < O.length := by omega
      have hb0 : Below w.heap.size w wr := B0.out.trans (gb.out.mono B0.out.size)
      have cw : ∀ q, q < 3 → wr.cell? ⟨gw, off + j * 3 + q, none⟩ = (stpv (O.getD j stp0))[q]? := fun q hq => (hb0.cell (p := ⟨gw, off + j * 3 + q, none⟩) hgw).trans (hcl j hlt q hq)
      obtain ⟨X, hX⟩ : ∃ X, X = O.getD j stp0 := ⟨_, rfl⟩
      have HI0 : Hid (I64 X.i) := by unfold Hid; rw [hX]; exact HOK.out j hlt
      rw [← hX] at cw
      clear hX hcl hb0
      obtain ⟨xi, xv, xd⟩ := X
      have HI : Hid (I64 xi) := HI0.out
      clear HI0
      have x0 : wr.cell? ⟨gw, off + j * 3, none⟩ = some (.int .i64 xi) := cw 0 (by omega)
      have x1 : wr.cell? ⟨gw, off + j * 3 + 1, none⟩ = some (.int .u64 (n64 xv)) := cw 1 (by omega)
      have x2 : wr.cell? ⟨gw, off + j * 3 + 2, none⟩ = some (.bool xd) := cw 2 (by omega)
      clear cw
      cases xd with
      | true =>
        go_upto_region 7 with fail
        refine go_onP (motive := fun W => Code.wp _ _ _ _ W) (Q := fun W => Row W w.heap.size (runk k m t (.slice (some ⟨gw, off, none⟩) O.length cap)) 47 ∧ Row W gp (cpc K) 31 ∧ Row W gq (cpc K) 31 ∧ Row W wr.heap.size #[.int .i64 xi, .int .u64 (n64 xv), .bool true] 49 ∧ Below W0.heap.size W0 W) ⟨(R0.out.cb gb.out).old (by have := HPQ.out; have := gb.out.size; omega) _, g0.out.old g0.out.lt _, g1.out.old g1.out.lt _, Row.new wr _ 49, gb.out.alloc gb.out.size _⟩ ?_
        have NX : Hid (gp < wr.heap.size ∧ gq < wr.heap.size ∧ W0.heap.size ≤ wr.heap.size) := ⟨g0.out.lt, g1.out.lt, gb.out.size⟩
        clear g0 g1 gb x0 x1 x2 c3
        rintro W2 ⟨q0, q1, q2, q3, c0⟩
        have Q0 : Hid (Row W2 w.heap.size (runk k m t (.slice (some ⟨gw, off, none⟩) O.length cap)) 47) := q0
        have Q1 : Hid (Row W2 gp (cpc K) 31) := q1
        have Q2 : Hid (Row W2 gq (cpc K) 31) := q2
        have Q3 : Hid (Row W2 wr.heap.size #[.int .i64 xi, .int .u64 (n64 xv), .bool true] 49) := q3
        have BB : Hid (Below W0.heap.size W0 W2) := c0
        obtain ⟨_, d1, d2, _⟩ := q0.runk
        have y0 : W2.cell? ⟨wr.heap.size, 0, none⟩ = some (.int .i64 xi) := q3.cell 0
        have y1 : W2.cell? ⟨wr.heap.size, 1, none⟩ = some (.int .u64 (n64 xv)) := q3.cell 1
        have y2 : W2.cell? ⟨wr.heap.size, 2, none⟩ = some (.bool true) := q3.cell 2
        clear q0 q1 q2 q3 c0
        have HA : Hid (∀ W, Calls Try.prog 9 #[.agg (cpc K), .int .u64 (n64 m), .int .u64 (n64 t), .int .i64 xi] W fun e w' => e = .returned (.tuple #[.int .u64 (RD K m t xi), .bool (RK K xi)]) ∧ Below W.heap.size W w') := HR.out K m t xi HI.out
        have HB : Hid (∀ W, Calls Try.prog 14 #[.agg (cpc K), .int .u64 (n64 m), .int .u64 (n64 t), .int .i64 xi] W fun e w' => e = .returned (.tuple #[.int .u64 (RD K m t xi), .bool (RK K xi)]) ∧ Below W.heap.size W w') := rRead_c K m t xi
        generalize RD K m t xi = z1 at HA HB
        generalize RK K xi = z2 at HA HB
        have e1 : (z1 != z1) = false := by simp
        have e2 : (z2 != z2) = false := by simp
        go_upto_region 8 with fail
        go_upto_region 9 with (first | (refine wpList_load_row (by rfl) _ _ (by rfl) _ (by rfl) 31 _ (0, 0) _ Q1.out Try.underlying31 (by rfl) (info_cpu _) ?_) | (go_at_call 9; refine (HA.out _).mono ?_; rintro e w3 ⟨rfl, hb⟩; have Bw3 : Hid (Below W2.heap.size W2 w3) := hb; clear hb))
        clear d1 d2 y0 y1 y2
        have q0 := Q0.out.cb Bw3.out
        have q3 := Q3.out.cb Bw3.out
        have H2 : Hid (Row w3 gq (cpc K) 31) := Q2.out.cb Bw3.out
        obtain ⟨_, d1, d2, _⟩ := q0.runk
        have y0 : w3.cell? ⟨wr.heap.size, 0, none⟩ = some (.int .i64 xi) := q3.cell 0
        clear q0 q3
        go_upto_region 10 with (first | (refine wpList_load_row (by rfl) _ _ (by rfl) _ (by rfl) 31 _ (0, 0) _ H2.out Try.underlying31 (by rfl) (info_cpu _) ?_) | (go_at_call 14; refine (HB.out _).mono ?_; rintro e w4 ⟨rfl, hb⟩; have Bw4 : Hid (Below w3.heap.size w3 w4) := hb; clear hb))
        clear d1 d2 y0
        have E1 : Hid (Row w4 gp (cpc K) 31) := (Q1.out.cb Bw3.out).cb Bw4.out
        have E2 : Hid (Row w4 gq (cpc K) 31) := H2.out.cb Bw4.out
        have EB : Hid (Below W0.heap.size W0 w4) := BB.out.trans ((Bw3.out.trans (Bw4.out.mono Bw3.out.size)).mono BB.out.size)
        clear Q0 Q1 Q2 Q3 BB H2 Bw3 Bw4 HA HB
        go_wp2
        go_roundw
        case rel => exact ⟨j + 1, hlt, by go_num, K, E1, E2, EB⟩
        case measure => simp [intOf]; omega
      | false =>
        go_upto_region 7 with fail
        refine go_onP (motive := fun W => Code.wp _ _ _ _ W) (Q := fun W => Row W w.heap.size (runk k m t (.slice (some ⟨gw, off, none⟩) O.length cap)) 47 ∧ Row W gp (cpc K) 31 ∧ Row W gq (cpc K) 31 ∧ Row W wr.heap.size #[.int .i64 xi, .int .u64 (n64 xv), .bool false] 49 ∧ Below W0.heap.size W0 W) ⟨(R0.out.cb gb.out).old (by have := HPQ.out; have := gb.out.size; omega) _, g0.out.old g0.out.lt _, g1.out.old g1.out.lt _, Row.new wr _ 49, gb.out.alloc gb.out.size _⟩ ?_
        have NX : Hid (gp < wr.heap.size ∧ gq < wr.heap.size ∧ W0.heap.size ≤ wr.heap.size) := ⟨g0.out.lt, g1.out.lt, gb.out.size⟩
        clear g0 g1 gb x0 x1 x2 c3
        rintro W2 ⟨q0, q1, q2, q3, c0⟩
        have Q0 : Hid (Row W2 w.heap.size (runk k m t (.slice (some ⟨gw, off, none⟩) O.length cap)) 47) := q0
        have Q1 : Hid (Row W2 gp (cpc K) 31) := q1
        have Q2 : Hid (Row W2 gq (cpc K) 31) := q2
        have Q3 : Hid (Row W2 wr.heap.size #[.int .i64 xi, .int .u64 (n64 xv), .bool false] 49) := q3
        have BB : Hid (Below W0.heap.size W0 W2) := c0
        obtain ⟨_, d1, d2, _⟩ := q0.runk
        have y0 : W2.cell? ⟨wr.heap.size, 0, none⟩ = some (.int .i64 xi) := q3.cell 0
        have y1 : W2.cell? ⟨wr.heap.size, 1, none⟩ = some (.int .u64 (n64 xv)) := q3.cell 1
        have y2 : W2.cell? ⟨wr.heap.size, 2, none⟩ = some (.bool false) := q3.cell 2
        clear q0 q1 q2 q3 c0
        have HA : Hid (∀ W, Calls Try.prog 12 #[.agg (cpc K), .int .i64 xi, .int .u64 (n64 xv)] W fun e w' => e = .returned (.tuple #[.agg (cpc (WR K xi xv)), .bool (WK K xi)]) ∧ Below W.heap.size W w') := HWW.out K xi xv HI.out
        have HB : Hid (∀ W, Calls Try.prog 15 #[.agg (cpc K), .int .i64 xi, .int .u64 (n64 xv)] W fun e w' => e = .returned (.tuple #[.agg (cpc (WR K xi xv)), .bool (WK K xi)]) ∧ Below W.heap.size W w') := rWrite_c K xi xv
        generalize WR K xi xv = K' at HA HB
        generalize WK K xi = z2 at HA HB
        have heq : ∀ W, (Op.equalIn 10000 31 (.agg (cpc K')) (.agg (cpc K'))).run Try.prog W = .ok true W := fun W => eq_cpu W _
        have e2 : (z2 != z2) = false := by simp
        have hz := zero_cpu
        go_upto_region 12 with fail
        go_upto_region 13 with (first | (refine wpList_load_row (by rfl) _ _ (by rfl) _ (by rfl) 31 _ (0, 0) _ Q1.out Try.underlying31 (by rfl) (info_cpu _) ?_) | (go_at_call 12; refine (HA.out _).mono ?_; rintro e w3 ⟨rfl, hb⟩; have Bw3 : Hid (Below W2.heap.size W2 w3) := hb; clear hb) | (refine wpList_store_last (by rfl) _ _ _ (by rfl) (by rfl) _ _ _ (by rfl) (by rfl) (by rfl) (info_cpu _) (by rw [cpc_size, cpc_size]) (cpc_ones _) ?_))
        clear d1 d2 y0 y1 y2
        refine go_onP (motive := fun W => Code.wp _ _ _ _ W) (Q := fun W => Row W gp (cpc K) 31 ∧ Row W gq (cpc K) 31 ∧ Row W wr.heap.size #[.int .i64 xi, .int .u64 (n64 xv), .bool false] 49 ∧ Row W w3.heap.size (cpc K') 31 ∧ Below W0.heap.size W0 W) ⟨Q1.out.ca Bw3.out _, Q2.out.ca Bw3.out _, Q3.out.ca Bw3.out _, Row.new w3 (cpc K') 31, below_ca BB.out Bw3.out BB.out.size _⟩ ?_
        have N3 : Hid (wr.heap.size < w3.heap.size) := Nat.lt_of_lt_of_le Q3.out.lt Bw3.out.size
        clear Q0 Q1 Q2 Q3 BB Bw3 HA
        rintro W4 ⟨q1, q2, q3, q4, c0⟩
        have Q1 : Hid (Row W4 gp (cpc K) 31) := q1
        have Q2 : Hid (Row W4 gq (cpc K) 31) := q2
        have Q4 : Hid (Row W4 w3.heap.size (cpc K') 31) := q4
        have BB : Hid (Below W0.heap.size W0 W4) := c0
        have y0 : W4.cell? ⟨wr.heap.size, 0, none⟩ = some (.int .i64 xi) := q3.cell 0
        have y1 : W4.cell? ⟨wr.heap.size, 1, none⟩ = some (.int .u64 (n64 xv)) := q3.cell 1
        clear q1 q2 q3 q4 c0
        go_upto_region 14 with (first | (refine wpList_load_row (by rfl) _ _ (by rfl) _ (by rfl) 31 _ (0, 0) _ Q2.out Try.underlying31 (by rfl) (info_cpu _) ?_) | (go_at_call 15; refine (HB.out _).mono ?_; rintro e w5 ⟨rfl, hb⟩; have Bw5 : Hid (Below W4.heap.size W4 w5) := hb; clear hb) | (refine wpList_store_last (by rfl) _ _ _ (by rfl) (by rfl) _ _ _ (by rfl) (by rfl) (by rfl) (info_cpu _) (by rw [cpc_size, cpc_size]) (cpc_ones _) ?_))
        clear y0 y1
        refine go_onP (motive := fun W => Code.wp _ _ _ _ W) (Q := fun W => Row W gp (cpc K) 31 ∧ Row W gq (cpc K) 31 ∧ Row W w3.heap.size (cpc K') 31 ∧ Row W w5.heap.size (cpc K') 31 ∧ Below W0.heap.size W0 W) ⟨Q1.out.ca Bw5.out _, Q2.out.ca Bw5.out _, Q4.out.ca Bw5.out _, Row.new w5 (cpc K') 31, below_ca BB.out Bw5.out BB.out.size _⟩ ?_
        have N5 : Hid (w3.heap.size < w5.heap.size) := Nat.lt_of_lt_of_le Q4.out.lt Bw5.out.size
        clear Q1 Q2 Q4 BB Bw5 HB hz
        rintro W6 ⟨q1, q2, q4, q5, c0⟩
        have Q1 : Hid (Row W6 gp (cpc K) 31) := q1
        have Q2 : Hid (Row W6 gq (cpc K) 31) := q2
        have Q4 : Hid (Row W6 w3.heap.size (cpc K') 31) := q4
        have Q5 : Hid (Row W6 w5.heap.size (cpc K') 31) := q5
        have BB : Hid (Below W0.heap.size W0 W6) := c0
        clear q1 q2 q4 q5 c0
        go_upto_region 16 with (first | (refine wpList_load_row (by rfl) _ _ (by rfl) _ (by rfl) 31 _ (0, 0) _ Q4.out Try.underlying31 (by rfl) (info_cpu _) ?_) | (refine wpList_load_row (by rfl) _ _ (by rfl) _ (by rfl) 31 _ (0, 0) _ Q5.out Try.underlying31 (by rfl) (info_cpu _) ?_))
        go_upto_region 17 with (first | (refine wpList_load_row (by rfl) _ _ (by rfl) _ (by rfl) 31 _ (0, 0) _ Q4.out Try.underlying31 (by rfl) (info_cpu _) ?_) | (refine wpList_store_row (by rfl) _ _ _ (by rfl) (by rfl) _ _ _ (by rfl) (by rfl) Q1.out (info_cpu _) (by rw [cpc_size, cpc_size]) (cpc_ones _) ?_))
        refine go_onP (motive := fun W => Code.wp _ _ _ _ W) (Q := fun W => Row W gp (cpc K') 31 ∧ Row W gq (cpc K) 31 ∧ Row W w5.heap.size (cpc K') 31 ∧ Below W0.heap.size W0 W) ⟨setRow_heap _ _ _ _ _ _ Q1.out, row_apart Q2.out (by have := HPQ.out; omega) _, row_apart Q5.out (by have := NX.out; have := N3.out; have := N5.out; omega) _, below_row BB.out HPQ.out.1 _⟩ ?_
        clear Q1 Q2 Q4 Q5 BB
        rintro W7 ⟨q1, q2, q5, c0⟩
        have Q1 : Hid (Row W7 gp (cpc K') 31) := q1
        have Q2 : Hid (Row W7 gq (cpc K) 31) := q2
        have Q5 : Hid (Row W7 w5.heap.size (cpc K') 31) := q5
        have BB : Hid (Below W0.heap.size W0 W7) := c0
        clear q1 q2 q5 c0
        go_upto_region 5 with (first | (refine wpList_load_row (by rfl) _ _ (by rfl) _ (by rfl) 31 _ (0, 0) _ Q5.out Try.underlying31 (by rfl) (info_cpu _) ?_) | (refine wpList_store_row (by rfl) _ _ _ (by rfl) (by rfl) _ _ _ (by rfl) (by rfl) Q2.out (info_cpu _) (by rw [cpc_size, cpc_size]) (cpc_ones _) ?_))
        refine go_onP (motive := fun W => Code.wp _ _ _ _ W) (Q := fun W => Row W gp (cpc K') 31 ∧ Row W gq (cpc K') 31 ∧ Below W0.heap.size W0 W) ⟨row_apart Q1.out (by have := HPQ.out; omega) _, setRow_heap _ _ _ _ _ _ Q2.out, below_row BB.out HPQ.out.2.1 _⟩ ?_
        clear Q1 Q2 Q5 BB
        rintro W8 ⟨q1, q2, c0⟩
        have E1 : Hid (Row W8 gp (cpc K') 31) := q1
        have E2 : Hid (Row W8 gq (cpc K') 31) := q2
        have EB : Hid (Below W0.heap.size W0 W8) := c0
        clear q1 q2 c0
        go_wp2
        go_roundw
        case rel => exact ⟨j + 1, hlt, by go_num, K', E1, E2, EB⟩
        case measure => simp [intOf]; omega
    · obtain rfl : j = O.length := by omega
      go_upto_region 18 with fail
      have hA : Hid (∀ W : World, Calls Try.prog 8 #[.agg (cpc K)] W fun e w' => e = .returned (.agg (cpc (PR K))) ∧ Below W.heap.size W w') := HP.out K
      have hB : Hid (∀ W : World, Calls Try.prog 16 #[.agg (cpc K)] W fun e w' => e = .returned (.agg (cpc (PR K))) ∧ Below W.heap.size W w') := rPr_c K
      have heq : ∀ W, (Op.equalIn 10000 31 (.agg (cpc (PR K))) (.agg (cpc (PR K)))).run Try.prog W = .ok true W := fun W => eq_cpu W _
      generalize PR K = p2 at hA hB heq
      have Lp : Hid (∀ j v, (cpc K)[j]? = some v → wr.cell? ⟨gp, 0 + j, none⟩ = some v) := g0.out.cpu.agg
      have Lq : Hid (∀ j v, (cpc K)[j]? = some v → wr.cell? ⟨gq, 0 + j, none⟩ = some v) := g1.out.cpu.agg
      have lp := g0.out.lt
      have lq := g1.out.lt
      have := later_nonempty wr
      clear c3
      refine wp_region_later (x0 := Later.start wr) (by kernel_rfl) (by kernel_rfl) ?_
      repeat (first | (refine BigFrame.wpQuiet_want (by rfl) fun K9 hK => ?_; refine quiet_load_agg 31 _ (by rfl) gp 0 (by rfl) (cpc K) _ lp Lp.out Try.underlying31 (by rfl) (info_cpu _) (hK _ ?_); clear hK K9; simp only [Act.put, List.setIfInBounds_toArray, List.set_cons_succ, List.set_cons_zero]) | (refine BigFrame.wpQuiet_want (by rfl) fun K9 hK => ?_; refine quiet_load_agg 31 _ (by rfl) gq 0 (by rfl) (cpc K) _ lq Lq.out Try.underlying31 (by rfl) (info_cpu _) (hK _ ?_); clear hK K9; simp only [Act.put, List.setIfInBounds_toArray, List.set_cons_succ, List.set_cons_zero]) | (go_big_quiet_step (first | (go_at_call 8; exact calls_later (hA.out _)) | (go_at_call 16; exact calls_later (hB.out _)))))
      refine wpQuiet_nil ?_
      rintro w' ⟨x9, rfl⟩
      go_wp2
      go_ret
      exact ⟨rfl, B0.out.trans ((gb.out.trans (x9.below.mono gb.out.size)).mono B0.out.size)⟩
end Go.Proofs.Ytnnkeodiacdmaab
