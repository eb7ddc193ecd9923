/-
  Uf.
-/
import Derived.Test.YtidfndgedopghaaGreatDoorQ22
import Derived.Test.YtidfndgedopghaaGreatDoorQ04
namespace Go.Proofs.YtidfndgedopghaaGreatDoor
set_option linter.unusedVariables false
set_option maxRecDepth 100000
set_option maxHeartbeats 4000000
open Go.ChangeShapes Go.WideShapes Go.ChangeAt Go.RowKit Go.Deep
/-- A run of addresses. -/
structure Pl where
  f : BitVec 64
  n : Int
def plc2 (p : Pl) : Array Value := #[.int .u64 (n64 p.f), .int .u64 p.n]
theorem plc2_ones (p : Pl) : (plc2 p).all (·.oneCell') = true := by simp [plc2, Value.oneCell']
theorem info_pl (p : Pl) : (Tryz.prog.info? 97).map (·.size) = some (plc2 p).size := by kernel_rfl
theorem any_hit {f : Nat → Bool} {n k : Nat} (h : k < n) (hf : f k = true) : (List.range n).any f = true := by rw [List.any_eq_true]; exact ⟨k, by simpa using h, hf⟩
theorem any_none {f : Nat → Bool} {n : Nat} (h : ∀ j, j < n → f j = false) : (List.range n).any f = false := by rw [List.any_eq_false]; intro j hj; simp [h j (by simpa using hj)]
theorem all_hit {f : Nat → Bool} {n k : Nat} (h : k < n) (hf : f k = false) : (List.range n).all f = false := by rw [List.all_eq_false]; exact ⟨k, by simpa using h, by simp [hf]⟩
theorem all_none {f : Nat → Bool} {n : Nat} (h : ∀ j, j < n → f j = true) : (List.range n).all f = true := by rw [List.all_eq_true]; intro j hj; exact h j (by simpa using hj)
def noB (r : Rw) : Bool := (((bits .and .i64 r.mem 2 == 0) || (decide (r.sz < 1))) || (decide (8 < r.sz)))
def stP (r : Rw) : Pl := if noB r then ⟨0#64, 0⟩ else ⟨r.ad, r.sz⟩
theorem zero_pl (w : World) : (zeroValue 97).run Tryz.prog w = .ok (.agg #[.int .u64 0, .int .u64 0]) w := by kernel_rfl
theorem uSto_c (r : Rw) (w : World) : Calls Tryz.prog 58 #[.agg (rwc r)] w fun e w' => e = .returned (.agg (plc2 (stP r))) ∧ Below w.heap.size w w' := by
  have hz := zero_pl
  obtain ⟨W0, hW0, r0, r1, b0, s0⟩ := start2 w (rwc r) #[.int .u64 0, .int .u64 0] 52 97
  have BB := Hid.mkU b0.out
  clear b0
  have HS : Hid (W0.heap.size = w.heap.size + 2) := s0
  clear s0
  have c_mem : W0.cell? ⟨w.heap.size, 10, none⟩ = some (.int .i64 r.mem) := r0.out.cell 10
  have c_ad : W0.cell? ⟨w.heap.size, 11, none⟩ = some (.int .u64 (n64 r.ad)) := r0.out.cell 11
  have c_sz : W0.cell? ⟨w.heap.size, 12, none⟩ = some (.int .i64 r.sz) := r0.out.cell 12
  have HM : Hid (stP r = if noB r then ⟨0#64, 0⟩ else ⟨r.ad, r.sz⟩) := rfl
  have HN : Hid (noB r = (((bits .and .i64 r.mem 2 == 0) || (decide (r.sz < 1))) || (decide (8 < r.sz)))) := rfl
  generalize stP r = Z at HM ⊢
  generalize noB r = n at HM HN
  cases q1 : (bits .and .i64 r.mem 2 == 0) with
  | true =>
    have HV : Hid (Z = ⟨0#64, 0⟩) := (by unfold Hid; rw [HM.out, show n = true from (by rw [HN.out]; first | (rw [q1]; done) | (rw [q1]; rfl))]; rfl)
    clear HM HN
    go_enter Tryz.func58, Tryz.ntmps58
    go_upto_region 1 with fail
    clear hW0
    go_wp2_with (refine wpList_store_row (by rfl) _ _ _ (by rfl) (by rfl) _ _ _ (by rfl) (by rfl) r1.out (info_pl ⟨0#64, 0⟩) (by rfl) (plc2_ones _) ?_)
    refine bodyPost_ret (v := .agg (plc2 ⟨0#64, 0⟩)) (results_cell_row Tryz.results58 _ _ (w.heap.size + 1) 97 _ (0, 0) _ (by rfl) (setRow_heap _ _ _ _ _ _ r1.out) Tryz.underlying97 (by rfl) (info_pl _)) rfl ?_
    exact ⟨by rw [HV.out], below_row BB.out (by omega) _⟩
  | false =>
    cases q2 : (decide (r.sz < 1)) with
    | true =>
      have HV : Hid (Z = ⟨0#64, 0⟩) := (by unfold Hid; rw [HM.out, show n = true from (by rw [HN.out]; first | (rw [q1, q2]; done) | (rw [q1, q2]; rfl))]; rfl)
      clear HM HN
      go_enter Tryz.func58, Tryz.ntmps58
      go_upto_region 1 with fail
      clear hW0
      go_wp2_with (refine wpList_store_row (by rfl) _ _ _ (by rfl) (by rfl) _ _ _ (by rfl) (by rfl) r1.out (info_pl ⟨0#64, 0⟩) (by rfl) (plc2_ones _) ?_)
      refine bodyPost_ret (v := .agg (plc2 ⟨0#64, 0⟩)) (results_cell_row Tryz.results58 _ _ (w.heap.size + 1) 97 _ (0, 0) _ (by rfl) (setRow_heap _ _ _ _ _ _ r1.out) Tryz.underlying97 (by rfl) (info_pl _)) rfl ?_
      exact ⟨by rw [HV.out], below_row BB.out (by omega) _⟩
    | false =>
      cases q3 : (decide (8 < r.sz)) with
      | true =>
        have HV : Hid (Z = ⟨0#64, 0⟩) := (by unfold Hid; rw [HM.out, show n = true from (by rw [HN.out]; first | (rw [q1, q2, q3]; done) | (rw [q1, q2, q3]; rfl))]; rfl)
        clear HM HN
        go_enter Tryz.func58, Tryz.ntmps58
        go_upto_region 1 with fail
        clear hW0
        go_wp2_with (refine wpList_store_row (by rfl) _ _ _ (by rfl) (by rfl) _ _ _ (by rfl) (by rfl) r1.out (info_pl ⟨0#64, 0⟩) (by rfl) (plc2_ones _) ?_)
        refine bodyPost_ret (v := .agg (plc2 ⟨0#64, 0⟩)) (results_cell_row Tryz.results58 _ _ (w.heap.size + 1) 97 _ (0, 0) _ (by rfl) (setRow_heap _ _ _ _ _ _ r1.out) Tryz.underlying97 (by rfl) (info_pl _)) rfl ?_
        exact ⟨by rw [HV.out], below_row BB.out (by omega) _⟩
      | false =>
        have HV : Hid (Z = ⟨r.ad, r.sz⟩) := (by unfold Hid; rw [HM.out, show n = false from (by rw [HN.out]; first | (rw [q1, q2, q3]; done) | (rw [q1, q2, q3]; rfl))]; rfl)
        have hw1 : 1 ≤ r.sz := by have := of_decide_eq_false q2; omega
        have hw8 : r.sz ≤ 8 := by have := of_decide_eq_false q3; omega
        have hcv : IntKind.u64.wrap r.sz = r.sz := by show r.sz % 18446744073709551616 = r.sz; omega
        clear HM HN
        go_enter Tryz.func58, Tryz.ntmps58
        go_upto_region 1 with fail
        clear hW0
        go_wp2_with (refine wpList_store_row (by rfl) _ _ _ (by rfl) (by rfl) _ _ _ (by rfl) (by rfl) r1.out (info_pl ⟨r.ad, r.sz⟩) (by rfl) (plc2_ones _) ?_)
        refine bodyPost_ret (v := .agg (plc2 ⟨r.ad, r.sz⟩)) (results_cell_row Tryz.results58 _ _ (w.heap.size + 1) 97 _ (0, 0) _ (by rfl) (setRow_heap _ _ _ _ _ _ r1.out) Tryz.underlying97 (by rfl) (info_pl _)) rfl ?_
        exact ⟨by rw [HV.out], below_row BB.out (by omega) _⟩
def hasB (p : Pl) (t : BitVec 64) : Bool := ((decide (n64 p.f ≤ n64 t)) && (decide (n64 (t - p.f) < p.n)))
theorem uHas_c (p : Pl) (t : BitVec 64) (w : World) : Calls Tryz.prog 71 #[.agg (plc2 p), .int .u64 (n64 t)] w fun e w' => e = .returned (.bool (hasB p t)) ∧ Below w.heap.size w w' := by
  have hsub : IntKind.u64.wrap (n64 t - n64 p.f) = n64 (t - p.f) := n64_sub t p.f
  obtain ⟨W0, hW0, r0, b0, s0⟩ := start1 w (plc2 p) 97
  have BB := Hid.mkU b0.out
  clear s0 b0
  have HM : Hid ((hasB p t) = ((decide (n64 p.f ≤ n64 t)) && (decide (n64 (t - p.f) < p.n)))) := rfl
  have c0_f : W0.cell? ⟨w.heap.size, 0, none⟩ = some (.int .u64 (n64 p.f)) := r0.out.cell 0
  have c0_n : W0.cell? ⟨w.heap.size, 1, none⟩ = some (.int .u64 p.n) := r0.out.cell 1
  generalize hZ : (hasB p t) = Z at HM ⊢
  clear hZ
  go_enter Tryz.func71, Tryz.ntmps71
  go_upto_region 1 with fail
  clear hW0
  cases q1 : (decide (n64 p.f ≤ n64 t)) with
  | true =>
    cases q2 : (decide (n64 (t - p.f) < p.n)) with
    | true =>
      have HV : Hid (Z = true) := (by unfold Hid; rw [HM.out]; first | (rw [q1, q2]; done) | (rw [q1, q2]; rfl))
      clear HM
      go_wp2
      go_ret
      exact ⟨by rw [HV.out]; first | done | rfl, BB.out⟩
    | false =>
      have HV : Hid (Z = false) := (by unfold Hid; rw [HM.out]; first | (rw [q1, q2]; done) | (rw [q1, q2]; rfl))
      clear HM
      go_wp2
      go_ret
      exact ⟨by rw [HV.out]; first | done | rfl, BB.out⟩
  | false =>
    have HV : Hid (Z = false) := (by unfold Hid; rw [HM.out]; first | (rw [q1]; done) | (rw [q1]; rfl))
    clear HM
    go_wp2
    go_ret
    exact ⟨by rw [HV.out]; first | done | rfl, BB.out⟩
def metB (p : Pl) (f : BitVec 64) (n : Nat) : Bool := (List.range n).any fun k => hasB p (f + BitVec.ofNat 64 k)
theorem n64_ofNat (k : Nat) (h : k < 18446744073709551616) : n64 (BitVec.ofNat 64 k) = (k : Int) := by
  unfold n64; rw [BitVec.toNat_ofNat, Nat.mod_eq_of_lt (by simpa using h)]
theorem n64_addN (f : BitVec 64) (k : Nat) (h : k < 18446744073709551616) : IntKind.u64.wrap (n64 f + (k : Int)) = n64 (f + BitVec.ofNat 64 k) := by rw [← n64_add, n64_ofNat k h]
theorem uMet_c (p : Pl) (f : BitVec 64) (n : Nat) (hn : n ≤ 8) (w : World) : Calls Tryz.prog 91 #[.agg (plc2 p), .int .u64 (n64 f), .int .u64 n] w fun e w' => e = .returned (.bool (metB p f n)) ∧ Below w.heap.size w w' := by
  obtain ⟨W0, hW0, r0, b0, s0⟩ := start1 w (plc2 p) 97
  have HM : Hid (metB p f n = (List.range n).any fun k => hasB p (f + BitVec.ofNat 64 k)) := rfl
  generalize metB p f n = Z at HM ⊢
  have HR := Hid.mkU r0.out
  have HB := Hid.mkU b0.out
  clear r0 b0 s0
  go_enter Tryz.func91, Tryz.ntmps91
  go_upto_region 1 with fail
  clear hW0
  go_wp2
  go_loopw [9] (fun i wr => ∃ k : Nat, k ≤ n ∧ i = .int .u64 k ∧ Hid (∀ j, j < k → hasB p (f + BitVec.ofNat 64 j) = false) ∧ Hid (Row wr w.heap.size (plc2 p) 97) ∧ Hid (Below w.heap.size w wr)) (fun i _ => n - (intOf i).toNat)
  case atStart => exact ⟨0, Nat.zero_le _, rfl, fun j hj => absurd hj (Nat.not_lt_zero _), HR, HB⟩
  case round =>
    clear HR HB
    obtain ⟨k, hk, rfl, hf, h0, hb⟩ := hrel
    by_cases hlt : k < n
    · have hlt2 : (k : Int) < (n : Int) := by omega
      have had := n64_addN f k (by omega)
      have HH : Hid (∀ W, Calls Tryz.prog 71 #[.agg (plc2 p), .int .u64 (n64 (f + BitVec.ofNat 64 k))] W fun e w' => e = .returned (.bool (hasB p (f + BitVec.ofNat 64 k))) ∧ Below W.heap.size W w') := fun W => uHas_c p _ W
      have hwr : IntKind.u64.wrap ((k : Int) + 1) = ((k + 1 : Nat) : Int) := by show ((k : Int) + 1) % 18446744073709551616 = _; omega
      have HW := Hid.mkU hwr
      cases hq : hasB p (f + BitVec.ofNat 64 k) with
      | true =>
        have HV : Hid (Z = true) := HM.out.trans (any_hit hlt hq)
        rw [hq] at HH
        clear hf hwr hq HM
        generalize n64 (f + BitVec.ofNat 64 k) = y at *
        go_wp2_with (first | (refine wpList_load_row (by rfl) _ _ (by rfl) _ (by rfl) 97 _ (0, 0) _ h0.out Tryz.underlying97 (by rfl) (info_pl _) ?_) | (go_at_call 71; refine (HH.out _).mono ?_; rintro e w1 ⟨rfl, hb1⟩; have HB1 : Hid (Below w.heap.size w w1) := hb.out.trans (hb1.mono hb.out.size); clear hb1))
        go_ret
        exact ⟨by rw [HV.out]; first | done | rfl, HB1.out⟩
      | false =>
        have HF : Hid (∀ j, j < k + 1 → hasB p (f + BitVec.ofNat 64 j) = false) := fun j hj => by
          by_cases e : j = k
          · rw [e]; exact hq
          · exact hf.out j (by omega)
        rw [hq] at HH
        clear hf hq
        generalize n64 (f + BitVec.ofNat 64 k) = y at *
        go_wp2_with (first | (refine wpList_load_row (by rfl) _ _ (by rfl) _ (by rfl) 97 _ (0, 0) _ h0.out Tryz.underlying97 (by rfl) (info_pl _) ?_) | (go_at_call 71; refine (HH.out _).mono ?_; rintro e w1 ⟨rfl, hb1⟩; have HB1 : Hid (Below wr.heap.size wr w1) := hb1; clear hb1))
        go_roundw
        case rel => exact ⟨k + 1, by omega, by first | rfl | (congr 1), HF, h0.out.later HB1.out h0.out.lt, hb.out.trans (HB1.out.mono hb.out.size)⟩
        case measure => simp [intOf]; omega
    · obtain rfl : k = n := by omega
      have HV : Hid (Z = false) := HM.out.trans (any_none hf.out)
      clear hf HM
      go_wp2
      go_ret
      exact ⟨by rw [HV.out]; first | done | rfl, hb.out⟩
end Go.Proofs.YtidfndgedopghaaGreatDoor
