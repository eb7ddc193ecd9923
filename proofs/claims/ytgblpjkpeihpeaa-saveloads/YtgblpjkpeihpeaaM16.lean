/-
  Hf Hg.
-/
import Derived.Test.YtgblpjkpeihpeaaM15
import Derived.Deep.RegionWith
namespace Go.Proofs.Ytgblpjkpeihpeaa
set_option linter.unusedVariables false
set_option maxRecDepth 100000
open Go.ChangeShapes Go.WideShapes Go.ChangeAt Go.RowKit Go.Deep
/-- Numbers of 64 bits in memory. -/
def Dbs (w : World) (v : Value) (xs : List (BitVec 64)) : Prop := ∃ g off cap, v = .slice (some ⟨g, off, none⟩) xs.length cap ∧ g < w.heap.size ∧ ∀ j, j < xs.length → w.cell? ⟨g, off + j, none⟩ = some (.int .u64 (n64 (xs.getD j 0#64)))
theorem Dbs.later {w w' : World} {v : Value} {xs : List (BitVec 64)} (h : Dbs w v xs) (hb : Below w.heap.size w w') : Dbs w' v xs := by
  obtain ⟨g, off, cap, rfl, h1, h2⟩ := h
  exact ⟨g, off, cap, rfl, Nat.lt_of_lt_of_le h1 hb.size, fun j hj => (hb.cell h1).trans (h2 j hj)⟩
def dbl (xs : List (BitVec 64)) : List Int := xs.flatMap fun x => ptL x.toNat 8
theorem dbl_length (xs : List (BitVec 64)) : (dbl xs).length = 8 * xs.length := by
  induction xs with
  | nil => rfl
  | cons x r ih => simp [dbl, List.flatMap_cons, ptL_length] at ih ⊢; omega
theorem dbl_append (xs ys : List (BitVec 64)) : dbl (xs ++ ys) = dbl xs ++ dbl ys := by simp [dbl]
theorem dbl_take (xs : List (BitVec 64)) (k : Nat) (h : k < xs.length) : dbl (xs.take (k + 1)) = dbl (xs.take k) ++ ptL (xs.getD k 0#64).toNat 8 := by
  rw [List.take_add_one, dbl_append]
  simp [dbl, h]
/-- Half made. -/
def dhl (xs : List (BitVec 64)) (k : Nat) : List Int := dbl (xs.take k) ++ List.replicate (8 * (xs.length - k)) 0
theorem dhl_length (xs : List (BitVec 64)) (k : Nat) (h : k ≤ xs.length) : (dhl xs k).length = 8 * xs.length := by
  simp [dhl, dbl_length]; omega
theorem dhl_put (xs : List (BitVec 64)) (k : Nat) (h : k < xs.length) : put_at (dhl xs k) (8 * k) (ptL (xs.getD k 0#64).toNat 8) = dhl xs (k + 1) := by
  have e : (dbl (xs.take k)).length = 8 * k := by rw [dbl_length, List.length_take]; omega
  unfold put_at dhl
  rw [ptL_length, List.take_append_of_le_length (by omega), List.take_of_length_le (by omega), List.drop_append, List.drop_of_length_le (by omega), dbl_take _ _ h, List.append_assoc, e]
  simp
  omega
theorem row_own {B : Nat} {w : World} {n g : Nat} {l : List Int} (hn : l.length = n) (h : w.ownsRow B 5 1 (.slice (some ⟨g, 0, none⟩) n n) n (bv l)) : Row w g (bv l).toArray 5 := by
  obtain ⟨g', e, _, hr⟩ := fsh_own hn h
  simp only [Value.slice.injEq, Option.some.injEq, Addr.mk.injEq] at e
  rw [e.1.1]; exact hr
set_option maxHeartbeats 2000000 in
theorem doubles_c (xs : List (BitVec 64)) (hx : xs.length ≤ 64) (v : Value) (w : World) (hv : Dbs w v xs) :
    Calls Try.prog 42 #[v] w fun e w' => ∃ u, e = .returned u ∧ Fsh w.heap.size w' u (dbl xs) ∧ Below w.heap.size w w' := by
  obtain ⟨i0, hi, hz0, hz1, hz2⟩ := info_parts info5
  have HI : Hid (Try.prog.info? 5 = some i0) := hi
  have HZ0 : Hid (i0.zero = some (.int .u8 0)) := hz0
  have HZ1 : Hid (i0.size = 1) := hz1
  have HZ2 : Hid (i0.bytes = 1) := hz2
  clear hi hz0 hz1 hz2
  obtain ⟨gv, off, cap, rfl, hg, hcell⟩ := hv
  have HC : Hid (∀ j, j < xs.length → w.cell? ⟨gv, off + j, none⟩ = some (.int .u64 (n64 (xs.getD j 0#64)))) := hcell
  clear hcell
  have HPUT : Hid (∀ (x : BitVec 64) W, Calls Try.prog 25 #[.int .u64 (n64 x), .int .i64 8] W fun e w' => ∃ u, e = .returned u ∧ Fsh W.heap.size w' u (ptL x.toNat 8) ∧ Below W.heap.size W w') := fun x W => put_c x 8 (by omega) (by omega) W
  obtain ⟨n, hn⟩ : ∃ n : Nat, n = xs.length := ⟨_, rfl⟩
  have HN := Hid.mk' hn
  rw [← hn] at hx ⊢
  clear hn
  go_enter Try.func42, Try.ntmps42
  go_wp2_with (at_make; refine wpList_make_full _ (by rfl) _ _ 32 (by rfl) w.heap.size 5 i0 (.int .u8 0) 1 Try.underlying32 HI.out HZ0.out HZ1.out _ _ _ _ (n * 8) (by rfl) (by rfl) (by omega) (by omega) (by rw [HZ2.out]; omega) (by unfold maxLen; omega) (Nat.le_refl _) ?_; intro w1 hown hgrow)
  obtain ⟨B, hB⟩ : ∃ B, B = w.heap.size := ⟨_, rfl⟩
  have HB0 := Hid.mk' hB
  have HRW : Hid (Row w1 B (bv (dhl xs 0)).toArray 5) := by
    have h := hown
    rw [show (Value.int .u8 0).cells = #[Value.int .u8 0] from rfl, made_bv] at h
    have hr := row_own (by simp) h
    unfold Hid
    rw [hB, show dhl xs 0 = List.replicate (n * 8) 0 by unfold dhl; rw [HN.out]; simp [dbl, Nat.mul_comm]]
    exact hr
  have HBL : Hid (Below B w w1) := by unfold Hid; rw [hB]; exact (Below.refl _ _).grown hgrow (Nat.le_refl _) (fun k hk => by cases hk)
  rw [← hB] at hg ⊢
  clear hown hgrow hB
  go_wp2
  go_loopw [12] (fun i wr => ∃ k : Nat, k ≤ n ∧ i = .int .i64 k ∧ Hid (Row wr B (bv (dhl xs k)).toArray 5) ∧ Hid (Below B w wr)) (fun i _ => n - (intOf i).toNat)
  case atStart => exact ⟨0, Nat.zero_le _, rfl, HRW, HBL⟩
  case round =>
    obtain ⟨k, hk, rfl, hrow, hbel⟩ := hrel
    clear HRW HBL
    by_cases hlt : k < n
    · have hlt2 : (k : Int) < (n : Int) := by omega
      have hce : wr.cell? ⟨gv, off + k, none⟩ = some (.int .u64 (n64 (xs.getD k 0#64))) := (hbel.out.cell hg).trans (HC.out k (by rw [← HN.out]; exact hlt))
      obtain ⟨x, hx0⟩ : ∃ x, x = xs.getD k 0#64 := ⟨_, rfl⟩
      have HX := Hid.mk' hx0
      rw [← hx0] at hce
      clear hx0
      have hm8 : (k : Int) * 8 = ((8 * k : Nat) : Int) := by omega
      have HSL : Hid (∀ W, (Instr.slice 32 (.slice (some ⟨B, 0, none⟩) (n * 8) (n * 8)) (some (.int .i64 ((8 * k : Nat) : Int))) none none).run Try.prog W = .ok (.slice (some ⟨B, 8 * k, none⟩) (n * 8 - 8 * k) (n * 8 - 8 * k)) W) := fun W => by
        rw [sl_l W _ _ _ (8 * k) (by omega), if_neg (by omega)]
        simp [addAt]
      obtain ⟨p, hp⟩ : ∃ p, p = 8 * k := ⟨_, rfl⟩
      rw [← hp] at hm8 HSL
      have HP := Hid.mk' hp
      clear hp
      have hBr : Hid (B ≤ wr.heap.size) := Nat.le_of_lt hrow.out.lt
      go_wp2
      rename_i hK
      refine wp_region_mkl (by kernel_rfl) 6 (fun i => ([[], [], [1], [0, 2, 1], [], [4], [0, 1, 2, 3, 4, 5]] : List (List Nat)).getD i []) (fun i => ([fun v _ => v = .slice (some ⟨B, 0, none⟩) (n * 8) (n * 8), fun v _ => v = .int .i64 (k : Int), fun v _ => v = .int .i64 (p : Int), fun v _ => v = .slice (some ⟨B, p, none⟩) (n * 8 - p) (n * 8 - p), fun v _ => v = .int .u64 (n64 x), fun v w => Fsh B w v (ptL x.toNat 8), fun v _ => v = .int .i64 8] : List (Value → World → Prop)).getD i (fun _ _ => True)) wr _ (by kernel_rfl) (by decide) (by decide) ?_ ?_ ?_ ?_ ?_
      · intro j v w1 w2 h hb
        match j, h with
        | 5, h => exact Fsh.later h hb
        | 0, h | 1, h | 2, h | 3, h | 4, h | 6, h | _ + 7, h => exact h
      · exact hop_list ⟨by simp, by simp, by simp, by simp, by simp, by simp, by simp, trivial⟩
      · intro o ho; cases ho; rfl
      · refine hop_list ⟨fun _ => ?_, fun _ => ?_, fun _ => ?_, fun _ => ?_, fun _ => ?_, fun _ => ?_, fun h => absurd rfl h, trivial⟩
        · refine stp_con _ rfl rfl rfl (by simp) (fun a w9 h1 h2 h3 => ?_)
          have q0 : a.eval (.tmp 3) = .slice (some ⟨B, 0, none⟩) (n * 8) (n * 8) := (h1 3 (by kernel_rfl)).trans rfl
          clear h1 h2 h3
          generalize a.eval = ρ at *
          simp [execOp, q0, go_sem]
        · refine stp_con _ rfl rfl rfl (by simp) (fun a w9 h1 h2 h3 => ?_)
          have q0 : a.eval (.tmp 4) = .int .i64 (k : Int) := (h1 4 (by kernel_rfl)).trans rfl
          clear h1 h2 h3
          generalize a.eval = ρ at *
          simp [execOp, q0, go_sem]
        · refine stp_con _ rfl rfl rfl (by simp) (fun a w9 h1 h2 h3 => ?_)
          have hcon : ∀ c, a.eval (.const c) = c := fun _ => rfl
          have q0 : a.eval (.tmp 18) = .int .i64 (k : Int) := h3 1 (by decide)
          have hp1 : (p : Int) ≤ 512 := by have := HP.out; omega
          have hmw : IntKind.i64.wrap (p : Int) = (p : Int) := by simp [IntKind.wrap, IntKind.signed, IntKind.bits]; omega
          clear h1 h2 h3
          generalize a.eval = ρ at *
          simp [execOp, hcon, q0, hm8, hmw, go_sem]
        · refine stp_con _ rfl rfl rfl (by simp) (fun a w9 h1 h2 h3 => ?_)
          have q0 : a.eval (.tmp 17) = .slice (some ⟨B, 0, none⟩) (n * 8) (n * 8) := h3 0 (by decide)
          have q1 : a.eval (.tmp 19) = .int .i64 (p : Int) := h3 2 (by decide)
          have hsl := HSL.out w9
          clear h1 h2 h3
          generalize a.eval = ρ at *
          simp [execOp, q0, q1, hsl, go_sem]
        · refine stp_con _ rfl rfl rfl (by simp) (fun a w9 h1 h2 h3 => ?_)
          have q0 : a.eval (.tmp 5) = .int .u64 (n64 x) := (h1 5 (by kernel_rfl)).trans rfl
          clear h1 h2 h3
          generalize a.eval = ρ at *
          simp [execOp, q0, go_sem]
        · refine stp_call 25 rfl rfl (by simp) (fun a w9 h1 h2 h3 => ?_)
          have hcon : ∀ c, a.eval (.const c) = c := fun _ => rfl
          have q0 : a.eval (.tmp 21) = .int .u64 (n64 x) := h3 4 (by decide)
          refine ⟨#[.int .u64 (n64 x), .int .i64 8], ?_, ?_⟩
          · have hf : a.eval (.func 25) = .func (.func 25) #[] #[] := rfl
            clear h1 h2 h3
            generalize a.eval = ρ at *
            simp [execOp, hcon, q0, hf, go_sem]
          · exact (HPUT.out x w9).mono fun e w2 ⟨u, e1, e2, e3⟩ => ⟨u, e1, e3, e2.mono (Nat.le_trans hBr.out h2.size)⟩
      · intro o ho a w9 h1 h2 h3
        cases ho
        have q0 : a.eval (.tmp 20) = .slice (some ⟨B, p, none⟩) (n * 8 - p) (n * 8 - p) := h3 3 (by decide) (by decide)
        have m0 : Fsh B w9 (a.eval (.tmp 22)) (ptL x.toNat 8) := h3 5 (by decide) (by decide)
        have hr9 : Row w9 B (bv (dhl xs k)).toArray 5 := hrow.out.later h2 hrow.out.lt
        have hlp : p + (ptL x.toNat 8).length ≤ (dhl xs k).length := by rw [ptL_length, dhl_length _ _ (by rw [← HN.out]; exact hk), ← HN.out, HP.out]; omega
        obtain ⟨w2, hrun, hrow2, hexc⟩ := run_copy_b (ty := 3) (dc := n * 8 - p) (dl := n * 8 - p) hr9 m0.byt (fun _ => rfl) (by rw [ptL_length, HP.out]; omega) hlp
        refine ⟨.int .i64 8, w2, ?_, fun f hf hv => ?_⟩
        · rw [ptL_length] at hrun
          clear h1 h2 h3 m0
          generalize a.eval = ρ at *
          simp [execOp, resolve, invoke, builtin, q0, hrun, go_sem, Result.andThen]
        · have f0 : f 0 = .slice (some ⟨B, 0, none⟩) (n * 8) (n * 8) := (hf 0 (by decide) (by decide)).trans (h3 0 (by decide) (by decide))
          have f1 : f 1 = .int .i64 (k : Int) := (hf 1 (by decide) (by decide)).trans (h3 1 (by decide) (by decide))
          have f2 : f 2 = .int .i64 (p : Int) := (hf 2 (by decide) (by decide)).trans (h3 2 (by decide) (by decide))
          have f3 : f 3 = .slice (some ⟨B, p, none⟩) (n * 8 - p) (n * 8 - p) := (hf 3 (by decide) (by decide)).trans (h3 3 (by decide) (by decide))
          have f4 : f 4 = .int .u64 (n64 x) := (hf 4 (by decide) (by decide)).trans (h3 4 (by decide) (by decide))
          obtain ⟨f5, hf5⟩ : ∃ f5, f5 = f 5 := ⟨_, rfl⟩
          have HRX : Hid (Row w2 B (bv (dhl xs (k + 1))).toArray 5) := by
            unfold Hid
            rw [← dhl_put _ _ (by rw [← HN.out]; exact hlt), ← HX.out, ← HP.out]; exact hrow2
          have HBX : Hid (Below B w w2) := hbel.out.trans ((h2.mono hBr.out).trans (hexc.below (Nat.le_of_lt hr9.lt) (fun k hk => by rw [hk]; exact Nat.le_refl _)))
          simp only [putAll, Nat.zero_add, Nat.reduceAdd, f0, f1, f2, f3, f4, hv, ← hf5, Act.put, List.setIfInBounds_toArray, List.set_cons_zero, List.set_cons_succ]
          clear h1 h2 h3 hf hv f0 f1 f2 f3 f4 hf5 hr9 hlp hrun hrow2 hexc m0 q0 hrow hbel
          refine hK _ _ ?_
          go_wp2
          go_roundw
          case rel => exact ⟨k + 1, by omega, by go_num, HRX, HBX⟩
          case measure => simp [intOf]; omega
    · have hkn : k = n := by omega
      have HK := Hid.mk' hkn
      have hz : ¬ (k : Int) < (n : Int) := by omega
      clear hkn hlt
      go_wp2
      go_ret
      have e1 : dhl xs k = dbl xs := by unfold dhl; rw [HK.out, HN.out]; simp
      have e2 : n * 8 = (dbl xs).length := by rw [dbl_length, ← HN.out]; omega
      refine ⟨_, rfl, ⟨B, ?_, Nat.le_of_eq HB0.out.symm, ?_⟩, ?_⟩
      · rw [← e2]; rfl
      · rw [← e1]; exact hrow.out
      · rw [← HB0.out]; exact hbel.out
end Go.Proofs.Ytgblpjkpeihpeaa
namespace Go.Proofs.Ytgblpjkpeihpeaa
set_option linter.unusedVariables false
set_option maxRecDepth 100000
open Go.ChangeShapes Go.WideShapes Go.ChangeAt Go.RowKit Go.Deep
/-- Lists of bytes in a row in memory. -/
def Rws (w : World) (v : Value) (ls : List (List Int)) : Prop := ∃ g cap, v = .slice (some ⟨g, 0, none⟩) ls.length cap ∧ g < w.heap.size ∧ ∀ j, j < ls.length → ∃ u, w.cell? ⟨g, j, none⟩ = some u ∧ Byt w u (ls.getD j [])
theorem Rws.later {w w' : World} {v : Value} {ls : List (List Int)} (h : Rws w v ls) {B : Nat} (hb : Below B w w') (hB : B = w.heap.size) : Rws w' v ls := by
  obtain ⟨g, cap, rfl, h1, h2⟩ := h
  refine ⟨g, cap, rfl, Nat.lt_of_lt_of_le h1 hb.size, fun j hj => ?_⟩
  obtain ⟨u, h3, h4⟩ := h2 j hj
  exact ⟨u, (hb.cell (by rw [hB]; exact h1)).trans h3, h4.later hb hB⟩
/-- How long the first k are together. -/
def flN (ls : List (List Int)) (k : Nat) : Nat := (ls.take k).flatten.length
theorem flat_take (ls : List (List Int)) (k : Nat) (h : k < ls.length) : (ls.take (k + 1)).flatten = (ls.take k).flatten ++ ls.getD k [] := by
  rw [List.take_add_one, List.flatten_append]; simp [h]
theorem flN_succ (ls : List (List Int)) (k : Nat) (h : k < ls.length) : flN ls (k + 1) = flN ls k + (ls.getD k []).length := by
  unfold flN; rw [flat_take _ _ h, List.length_append]
theorem flN_le (ls : List (List Int)) (k : Nat) : flN ls k ≤ ls.flatten.length := by
  unfold flN
  conv => rhs; rw [← List.take_append_drop k ls, List.flatten_append, List.length_append]
  omega
theorem flN_all (ls : List (List Int)) : flN ls ls.length = ls.flatten.length := by unfold flN; rw [List.take_length]
/-- Half put together. -/
def jhl (ls : List (List Int)) (k : Nat) : List Int := (ls.take k).flatten ++ List.replicate (ls.flatten.length - flN ls k) 0
theorem jhl_length (ls : List (List Int)) (k : Nat) : (jhl ls k).length = ls.flatten.length := by
  have := flN_le ls k
  unfold jhl; rw [List.length_append, List.length_replicate]; unfold flN at *; omega
theorem jhl_put (ls : List (List Int)) (k : Nat) (h : k < ls.length) : put_at (jhl ls k) (flN ls k) (ls.getD k []) = jhl ls (k + 1) := by
  have e1 := flN_succ ls k h
  have e2 : (ls.take k).flatten.length = flN ls k := rfl
  unfold put_at jhl
  rw [List.take_append_of_le_length (by omega), List.take_of_length_le (by omega), List.drop_append, List.drop_of_length_le (by omega), flat_take _ _ h, List.append_assoc, e2, e1, List.nil_append, List.drop_replicate]
  congr 3
  omega
set_option maxHeartbeats 2000000 in
theorem joined_c (ls : List (List Int)) (hx : ls.flatten.length ≤ 140737488355328) (hll : ls.length ≤ 100000) (v : Value) (w : World) (hv : Rws w v ls) :
    Calls Try.prog 20 #[v] w fun e w' => ∃ u, e = .returned u ∧ Fsh w.heap.size w' u ls.flatten ∧ Below w.heap.size w w' := by
  obtain ⟨i0, hi, hz0, hz1, hz2⟩ := info_parts info5
  have HI : Hid (Try.prog.info? 5 = some i0) := hi
  have HZ0 : Hid (i0.zero = some (.int .u8 0)) := hz0
  have HZ1 : Hid (i0.size = 1) := hz1
  have HZ2 : Hid (i0.bytes = 1) := hz2
  clear hi hz0 hz1 hz2
  have HV := Hid.mk' hv
  obtain ⟨gv, cap, rfl, hg, _⟩ := hv
  have HVL : Hid (∀ W, Below w.heap.size w W → ∀ j, j < ls.length → ∃ a n c, W.cell? ⟨gv, j, none⟩ = some (.slice a n c) ∧ n = (ls.getD j []).length ∧ Byt W (.slice a n c) (ls.getD j [])) := fun W hb j hj => by
    obtain ⟨g', cap', e, h1, h2⟩ := HV.out.later hb rfl
    simp only [Value.slice.injEq, Option.some.injEq, Addr.mk.injEq] at e
    obtain ⟨u, h3, h4⟩ := h2 j hj
    obtain ⟨a, c, rfl, _⟩ := h4.len
    exact ⟨a, _, c, by rw [e.1.1]; exact h3, rfl, h4⟩
  clear HV
  obtain ⟨n, hn⟩ : ∃ n : Nat, n = ls.length := ⟨_, rfl⟩
  have HN := Hid.mk' hn
  obtain ⟨M, hM⟩ : ∃ M : Nat, M = ls.flatten.length := ⟨_, rfl⟩
  have HM := Hid.mk' hM
  rw [← hn] at hll ⊢
  rw [← hM] at hx
  have HFL : Hid (∀ k, flN ls k ≤ M) := fun k => by rw [hM]; exact flN_le ls k
  clear hn hM
  go_enter Try.func20, Try.ntmps20
  go_wp2
  go_loopw [3, 12] (fun s i wr => ∃ k : Nat, k ≤ n ∧ i = .int .i64 k ∧ s = .int .i64 (flN ls k : Nat) ∧ wr = w) (fun _ i _ => n - (intOf i).toNat)
  case atStart => exact ⟨0, Nat.zero_le _, rfl, rfl, rfl⟩
  case round =>
    obtain ⟨k, hk, rfl, rfl, hwr⟩ := hrel
    have hwr2 := hwr.symm
    subst hwr2
    clear hwr
    by_cases hlt : k < n
    · have hlt2 : (k : Int) < (n : Int) := by omega
      obtain ⟨a, nn, c, hce, hnn, _⟩ := HVL.out w (Below.refl _ _) k (by rw [← HN.out]; exact hlt)
      have HS : Hid (flN ls (k + 1) = flN ls k + nn) := by unfold Hid; rw [hnn]; exact flN_succ ls k (by rw [← HN.out]; exact hlt)
      have hb1 := HFL.out (k + 1)
      rw [HS.out] at hb1
      obtain ⟨f, hf⟩ : ∃ f, f = flN ls k := ⟨_, rfl⟩
      rw [← hf] at HS hb1 ⊢
      clear hf hnn
      have hb2 : (f : Int) + (nn : Int) ≤ 140737488355328 := by omega
      clear hb1
      go_wp2
      go_roundw
      case rel => exact ⟨k + 1, by omega, by go_num, by rw [HS.out]; simp, trivial⟩
      case measure => simp [intOf]; omega
    · have hkn : k = n := by omega
      have HF : Hid (flN ls k = M) := by unfold Hid; rw [hkn, HN.out, flN_all, HM.out]
      have hz : ¬ (k : Int) < (n : Int) := by omega
      rw [HF.out]
      clear hkn hlt
      go_wp2_with (at_make; refine wpList_make_full _ (by rfl) _ _ 32 (by rfl) w.heap.size 5 i0 (.int .u8 0) 1 Try.underlying32 HI.out HZ0.out HZ1.out _ _ _ _ M (by rfl) (by rfl) (by omega) (by omega) (by rw [HZ2.out]; omega) (by unfold maxLen; omega) (Nat.le_refl _) ?_; intro w1 hown hgrow)
      obtain ⟨B, hB⟩ : ∃ B, B = w.heap.size := ⟨_, rfl⟩
      have HB0 := Hid.mk' hB
      have HRW : Hid (Row w1 B (bv (jhl ls 0)).toArray 5) := by
        have h := hown
        rw [show (Value.int .u8 0).cells = #[Value.int .u8 0] from rfl, made_bv] at h
        have hr := row_own (by simp) h
        unfold Hid
        rw [hB, show jhl ls 0 = List.replicate M 0 by unfold jhl flN; rw [HM.out]; simp]
        exact hr
      have HBL : Hid (Below B w w1) := by unfold Hid; rw [hB]; exact (Below.refl _ _).grown hgrow (Nat.le_refl _) (fun k hk => by cases hk)
      rw [← hB] at hg ⊢
      clear hown hgrow hB hz hk
      go_wp2
      go_loopw [7, 25] (fun s i w2 => ∃ k : Nat, k ≤ n ∧ i = .int .i64 k ∧ s = .int .i64 (flN ls k : Nat) ∧ Hid (Row w2 B (bv (jhl ls k)).toArray 5) ∧ Hid (Below B w w2)) (fun _ i _ => n - (intOf i).toNat)
      case atStart => exact ⟨0, Nat.zero_le _, rfl, rfl, HRW, HBL⟩
      case round =>
        obtain ⟨k, hk, rfl, rfl, hrow, hbel⟩ := hrel
        clear HRW HBL
        by_cases hlt : k < n
        · have hlt2 : (k : Int) < (n : Int) := by omega
          have hkl : k < ls.length := by rw [← HN.out]; exact hlt
          obtain ⟨a, nn, c, hce, hnn, hby⟩ := HVL.out wr (by rw [← HB0.out]; exact hbel.out) k hkl
          have HBY := Hid.mk' hby
          have HS : Hid (flN ls (k + 1) = flN ls k + nn) := by unfold Hid; rw [hnn]; exact flN_succ ls k hkl
          have hb1 := HFL.out (k + 1)
          rw [HS.out] at hb1
          have HNN := Hid.mk' hnn
          have HPT : Hid (put_at (jhl ls k) (flN ls k) (ls.getD k []) = jhl ls (k + 1)) := jhl_put ls k hkl
          have HJL : Hid ((jhl ls k).length = M) := by unfold Hid; rw [jhl_length, HM.out]
          obtain ⟨f, hf⟩ : ∃ f, f = flN ls k := ⟨_, rfl⟩
          rw [← hf] at HS hb1 HPT ⊢
          clear hf hnn hby
          have hb2 : (f : Int) + (nn : Int) ≤ 140737488355328 := by omega
          obtain ⟨ad, had⟩ : ∃ ad, ad = (if M = f then (some ⟨B, 0, none⟩ : Option Addr) else (some ⟨B, 0, none⟩ : Option Addr).map (fun x => x.add f)) := ⟨_, rfl⟩
          have hsl : ∀ W, (Instr.slice 32 (.slice (some ⟨B, 0, none⟩) M M) (some (.int .i64 (f : Int))) none none).run Try.prog W = .ok (.slice ad (M - f) (M - f)) W := fun W => by
            rw [had]; exact sl_l W _ _ _ f (by omega)
          have HAD : Hid (ls.getD k [] ≠ [] → ad = some ⟨B, f, none⟩) := fun hne => by
            have : 0 < (ls.getD k []).length := List.length_pos_iff.2 hne
            rw [had, if_neg (by have := HNN.out; omega)]
            simp [addAt]
          have HLE : Hid ((ls.getD k []).length ≤ M - f) := by unfold Hid; rw [← HNN.out]; omega
          have HLF : Hid (f + (ls.getD k []).length ≤ (jhl ls k).length) := by unfold Hid; rw [← HNN.out, HJL.out]; omega
          clear hb1 had
          go_wp2_with (refine wpList_copy_b (by rfl) _ _ (by rfl) B f _ _ _ _ (jhl ls k) (ls.getD k []) (by rfl) (by rfl) hrow.out HBY.out HAD.out HLE.out HLF.out ?_; rw [← HNN.out, HPT.out]; intro w2 hr2 hx2; have HR2 := Hid.mk' hr2; have HX2 := Hid.mk' hx2; clear hr2 hx2)
          go_roundw
          case rel => exact ⟨k + 1, by omega, by go_num, by rw [HS.out]; simp, HR2, hbel.out.trans (HX2.out.below (Nat.le_of_lt hrow.out.lt) (fun k hk => by rw [hk]; exact Nat.le_refl _))⟩
          case measure => simp [intOf]; omega
        · have hkn : k = n := by omega
          have HK := Hid.mk' hkn
          have hz : ¬ (k : Int) < (n : Int) := by omega
          clear hkn hlt
          go_wp2
          go_ret
          have e1 : jhl ls k = ls.flatten := by unfold jhl; rw [HK.out, HN.out, flN_all, List.take_length]; simp
          refine ⟨_, rfl, ⟨B, ?_, Nat.le_of_eq HB0.out.symm, ?_⟩, ?_⟩
          · rw [← HM.out]; rfl
          · rw [← e1]; exact hrow.out
          · rw [← HB0.out]; exact hbel.out
end Go.Proofs.Ytgblpjkpeihpeaa
