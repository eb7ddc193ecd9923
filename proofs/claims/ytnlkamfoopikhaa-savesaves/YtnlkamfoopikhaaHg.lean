/-
  Layer 16 (save): sections put together; pages, of the program and of the reference.
-/
import Derived.Test.YtnlkamfoopikhaaHf
namespace Go.Proofs.Ytnlkamfoopikhaa
set_option linter.unusedVariables false
set_option maxRecDepth 100000
open Go.ChangeShapes Go.WideShapes Go.ChangeAt Go.RowKit Go.Deep
/-- Lists of bytes in a row in memory. -/
def Rws (w : World) (v : Value) (ls : List (List Int)) : Prop := ∃ g cap, v = .slice (some ⟨g, 0, none⟩) ls.length cap ∧ g < w.heap.size ∧ ∀ j, j < ls.length → ∃ u, w.cell? ⟨g, j, none⟩ = some u ∧ Byt w u (ls.getD j [])
theorem Rws.later {w w' : World} {v : Value} {ls : List (List Int)} (h : Rws w v ls) {B : Nat} (hb : Below B w w') (hB : B = w.heap.size) : Rws w' v ls := by
  obtain ⟨g, cap, rfl, h1, h2⟩ := h
  refine ⟨g, cap, rfl, Nat.lt_of_lt_of_le h1 hb.size, fun j hj => ?_⟩
  obtain ⟨u, h3, h4⟩ := h2 j hj
  exact ⟨u, (hb.cell (by rw [hB]; exact h1)).trans h3, h4.later hb hB⟩
/-- How long the first k are together. -/
def flN (ls : List (List Int)) (k : Nat) : Nat := (ls.take k).flatten.length
theorem flat_take (ls : List (List Int)) (k : Nat) (h : k < ls.length) : (ls.take (k + 1)).flatten = (ls.take k).flatten ++ ls.getD k [] := by
  rw [List.take_add_one, List.flatten_append]; simp [h]
theorem flN_succ (ls : List (List Int)) (k : Nat) (h : k < ls.length) : flN ls (k + 1) = flN ls k + (ls.getD k []).length := by
  unfold flN; rw [flat_take _ _ h, List.length_append]
theorem flN_le (ls : List (List Int)) (k : Nat) : flN ls k ≤ ls.flatten.length := by
  unfold flN
  conv => rhs; rw [← List.take_append_drop k ls, List.flatten_append, List.length_append]
  omega
theorem flN_all (ls : List (List Int)) : flN ls ls.length = ls.flatten.length := by unfold flN; rw [List.take_length]
/-- Half put together. -/
def jhl (ls : List (List Int)) (k : Nat) : List Int := (ls.take k).flatten ++ List.replicate (ls.flatten.length - flN ls k) 0
theorem jhl_length (ls : List (List Int)) (k : Nat) : (jhl ls k).length = ls.flatten.length := by
  have := flN_le ls k
  unfold jhl; rw [List.length_append, List.length_replicate]; unfold flN at *; omega
theorem jhl_put (ls : List (List Int)) (k : Nat) (h : k < ls.length) : put_at (jhl ls k) (flN ls k) (ls.getD k []) = jhl ls (k + 1) := by
  have e1 := flN_succ ls k h
  have e2 : (ls.take k).flatten.length = flN ls k := rfl
  unfold put_at jhl
  rw [List.take_append_of_le_length (by omega), List.take_of_length_le (by omega), List.drop_append, List.drop_of_length_le (by omega), flat_take _ _ h, List.append_assoc, e2, e1, List.nil_append, List.drop_replicate]
  congr 3
  omega
set_option maxHeartbeats 2000000 in
theorem joined_c (ls : List (List Int)) (hx : ls.flatten.length ≤ 140737488355328) (hll : ls.length ≤ 100000) (v : Value) (w : World) (hv : Rws w v ls) :
    Calls Try.prog 20 #[v] w fun e w' => ∃ u, e = .returned u ∧ Fsh w.heap.size w' u ls.flatten ∧ Below w.heap.size w w' := by
  obtain ⟨i0, hi, hz0, hz1, hz2⟩ := info_parts info5
  have HI : Hid (Try.prog.info? 5 = some i0) := hi
  have HZ0 : Hid (i0.zero = some (.int .u8 0)) := hz0
  have HZ1 : Hid (i0.size = 1) := hz1
  have HZ2 : Hid (i0.bytes = 1) := hz2
  clear hi hz0 hz1 hz2
  have HV := Hid.mk' hv
  obtain ⟨gv, cap, rfl, hg, _⟩ := hv
  have HVL : Hid (∀ W, Below w.heap.size w W → ∀ j, j < ls.length → ∃ a n c, W.cell? ⟨gv, j, none⟩ = some (.slice a n c) ∧ n = (ls.getD j []).length ∧ Byt W (.slice a n c) (ls.getD j [])) := fun W hb j hj => by
    obtain ⟨g', cap', e, h1, h2⟩ := HV.out.later hb rfl
    simp only [Value.slice.injEq, Option.some.injEq, Addr.mk.injEq] at e
    obtain ⟨u, h3, h4⟩ := h2 j hj
    obtain ⟨a, c, rfl, _⟩ := h4.len
    exact ⟨a, _, c, by rw [e.1.1]; exact h3, rfl, h4⟩
  clear HV
  obtain ⟨n, hn⟩ : ∃ n : Nat, n = ls.length := ⟨_, rfl⟩
  have HN := Hid.mk' hn
  obtain ⟨M, hM⟩ : ∃ M : Nat, M = ls.flatten.length := ⟨_, rfl⟩
  have HM := Hid.mk' hM
  rw [← hn] at hll ⊢
  rw [← hM] at hx
  have HFL : Hid (∀ k, flN ls k ≤ M) := fun k => by rw [hM]; exact flN_le ls k
  clear hn hM
  go_enter Try.func20, Try.ntmps20
  go_wp2
  go_loopw [3, 12] (fun s i wr => ∃ k : Nat, k ≤ n ∧ i = .int .i64 k ∧ s = .int .i64 (flN ls k : Nat) ∧ wr = w) (fun _ i _ => n - (intOf i).toNat)
  case atStart => exact ⟨0, Nat.zero_le _, rfl, rfl, rfl⟩
  case round =>
    obtain ⟨k, hk, rfl, rfl, hwr⟩ := hrel
    have hwr2 := hwr.symm
    subst hwr2
    clear hwr
    by_cases hlt : k < n
    · have hlt2 : (k : Int) < (n : Int) := by omega
      obtain ⟨a, nn, c, hce, hnn, _⟩ := HVL.out w (Below.refl _ _) k (by rw [← HN.out]; exact hlt)
      have HS : Hid (flN ls (k + 1) = flN ls k + nn) := by unfold Hid; rw [hnn]; exact flN_succ ls k (by rw [← HN.out]; exact hlt)
      have hb1 := HFL.out (k + 1)
      rw [HS.out] at hb1
      obtain ⟨f, hf⟩ : ∃ f, f = flN ls k := ⟨_, rfl⟩
      rw [← hf] at HS hb1 ⊢
      clear hf hnn
      have hb2 : (f : Int) + (nn : Int) ≤ 140737488355328 := by omega
      clear hb1
      go_wp2
      go_roundw
      case rel => exact ⟨k + 1, by omega, by go_num, by rw [HS.out]; simp, trivial⟩
      case measure => simp [intOf]; omega
    · have hkn : k = n := by omega
      have HF : Hid (flN ls k = M) := by unfold Hid; rw [hkn, HN.out, flN_all, HM.out]
      have hz : ¬ (k : Int) < (n : Int) := by omega
      rw [HF.out]
      clear hkn hlt
      go_wp2_with (at_make; refine wpList_make_full _ (by rfl) _ _ 32 (by rfl) w.heap.size 5 i0 (.int .u8 0) 1 Try.underlying32 HI.out HZ0.out HZ1.out _ _ _ _ M (by rfl) (by rfl) (by omega) (by omega) (by rw [HZ2.out]; omega) (by unfold maxLen; omega) (Nat.le_refl _) ?_; intro w1 hown hgrow)
      obtain ⟨B, hB⟩ : ∃ B, B = w.heap.size := ⟨_, rfl⟩
      have HB0 := Hid.mk' hB
      have HRW : Hid (Row w1 B (bv (jhl ls 0)).toArray 5) := by
        have h := hown
        rw [show (Value.int .u8 0).cells = #[Value.int .u8 0] from rfl, made_bv] at h
        have hr := row_own (by simp) h
        unfold Hid
        rw [hB, show jhl ls 0 = List.replicate M 0 by unfold jhl flN; rw [HM.out]; simp]
        exact hr
      have HBL : Hid (Below B w w1) := by unfold Hid; rw [hB]; exact (Below.refl _ _).grown hgrow (Nat.le_refl _) (fun k hk => by cases hk)
      rw [← hB] at hg ⊢
      clear hown hgrow hB hz hk
      go_wp2
      go_loopw [7, 25] (fun s i w2 => ∃ k : Nat, k ≤ n ∧ i = .int .i64 k ∧ s = .int .i64 (flN ls k : Nat) ∧ Hid (Row w2 B (bv (jhl ls k)).toArray 5) ∧ Hid (Below B w w2)) (fun _ i _ => n - (intOf i).toNat)
      case atStart => exact ⟨0, Nat.zero_le _, rfl, rfl, HRW, HBL⟩
      case round =>
        obtain ⟨k, hk, rfl, rfl, hrow, hbel⟩ := hrel
        clear HRW HBL
        by_cases hlt : k < n
        · have hlt2 : (k : Int) < (n : Int) := by omega
          have hkl : k < ls.length := by rw [← HN.out]; exact hlt
          obtain ⟨a, nn, c, hce, hnn, hby⟩ := HVL.out wr (by rw [← HB0.out]; exact hbel.out) k hkl
          have HBY := Hid.mk' hby
          have HS : Hid (flN ls (k + 1) = flN ls k + nn) := by unfold Hid; rw [hnn]; exact flN_succ ls k hkl
          have hb1 := HFL.out (k + 1)
          rw [HS.out] at hb1
          have HNN := Hid.mk' hnn
          have HPT : Hid (put_at (jhl ls k) (flN ls k) (ls.getD k []) = jhl ls (k + 1)) := jhl_put ls k hkl
          have HJL : Hid ((jhl ls k).length = M) := by unfold Hid; rw [jhl_length, HM.out]
          obtain ⟨f, hf⟩ : ∃ f, f = flN ls k := ⟨_, rfl⟩
          rw [← hf] at HS hb1 HPT ⊢
          clear hf hnn hby
          have hb2 : (f : Int) + (nn : Int) ≤ 140737488355328 := by omega
          obtain ⟨ad, had⟩ : ∃ ad, ad = (if M = f then (some ⟨B, 0, none⟩ : Option Addr) else (some ⟨B, 0, none⟩ : Option Addr).map (fun x => x.add f)) := ⟨_, rfl⟩
          have hsl : ∀ W, (Instr.slice 32 (.slice (some ⟨B, 0, none⟩) M M) (some (.int .i64 (f : Int))) none none).run Try.prog W = .ok (.slice ad (M - f) (M - f)) W := fun W => by
            rw [had]; exact sl_l W _ _ _ f (by omega)
          have HAD : Hid (ls.getD k [] ≠ [] → ad = some ⟨B, f, none⟩) := fun hne => by
            have : 0 < (ls.getD k []).length := List.length_pos_iff.2 hne
            rw [had, if_neg (by have := HNN.out; omega)]
            simp [addAt]
          have HLE : Hid ((ls.getD k []).length ≤ M - f) := by unfold Hid; rw [← HNN.out]; omega
          have HLF : Hid (f + (ls.getD k []).length ≤ (jhl ls k).length) := by unfold Hid; rw [← HNN.out, HJL.out]; omega
          clear hb1 had
          go_wp2_with (refine wpList_copy_b (by rfl) _ _ (by rfl) B f _ _ _ _ (jhl ls k) (ls.getD k []) (by rfl) (by rfl) hrow.out HBY.out HAD.out HLE.out HLF.out ?_; rw [← HNN.out, HPT.out]; intro w2 hr2 hx2; have HR2 := Hid.mk' hr2; have HX2 := Hid.mk' hx2; clear hr2 hx2)
          go_roundw
          case rel => exact ⟨k + 1, by omega, by go_num, by rw [HS.out]; simp, HR2, hbel.out.trans (HX2.out.below (Nat.le_of_lt hrow.out.lt) (fun k hk => by rw [hk]; exact Nat.le_refl _))⟩
          case measure => simp [intOf]; omega
        · have hkn : k = n := by omega
          have HK := Hid.mk' hkn
          have hz : ¬ (k : Int) < (n : Int) := by omega
          clear hkn hlt
          go_wp2
          go_ret
          have e1 : jhl ls k = ls.flatten := by unfold jhl; rw [HK.out, HN.out, flN_all, List.take_length]; simp
          refine ⟨_, rfl, ⟨B, ?_, Nat.le_of_eq HB0.out.symm, ?_⟩, ?_⟩
          · rw [← HM.out]; rfl
          · rw [← e1]; exact hrow.out
          · rw [← HB0.out]; exact hbel.out
end Go.Proofs.Ytnlkamfoopikhaa
