/-
  Ird Ire Irf Irg.
-/
import Derived.Test.YtopddflnahfomaaGreatDoorM04
import Derived.Deep.RegionWith
import Derived.Deep.RegionLaw
import Derived.Deep.RegionHeld3
import Derived.BigQuiet
import Derived.Deep.QuietTactic
import Derived.Laws.AppendOwnNone
import Derived.Laws.BytesArg
import Derived.ArgAppend
import Derived.Lib.OwnKind
import Derived.Lib.SmallJoins
import Derived.Lib.SliceRun
namespace Go.Proofs.YtopddflnahfomaaGreatDoor
set_option linter.unusedVariables false
open Go.ChangeShapes Go.WideShapes Go.ChangeAt Go.RowKit Go.Deep
theorem and_left_of {P : Prop} (h : P) (_ : True) : P := h
theorem idF_end {b : List Int} {r i : Nat} (h1 : b.length ≤ i) : idF b (r + 1) i = some (b.length, 20) := by rw [idF, if_pos h1]
theorem idF_bad {b : List Int} {r i : Nat} (h1 : ¬ b.length ≤ i) (h2 : b.getD i 0 ≠ magL.getD i 0) : idF b (r + 1) i = some (i, 21) := by rw [idF, if_neg h1, if_pos h2]
theorem idF_go {b : List Int} {r i : Nat} (h1 : ¬ b.length ≤ i) (h2 : b.getD i 0 = magL.getD i 0) : idF b (r + 1) i = idF b r (i + 1) := by rw [idF, if_neg h1, if_neg (fun h => h h2)]
theorem mag_ix0 (w : World) : (Instr.index 9 (.string { data := #[127, 69, 76, 70, 2, 1, 1] }) (.int .i64 0)).run Tryz.prog w = .ok (.int .u8 127) w := by kernel_rfl
theorem mag_ix1 (w : World) : (Instr.index 9 (.string { data := #[127, 69, 76, 70, 2, 1, 1] }) (.int .i64 1)).run Tryz.prog w = .ok (.int .u8 69) w := by kernel_rfl
theorem mag_ix2 (w : World) : (Instr.index 9 (.string { data := #[127, 69, 76, 70, 2, 1, 1] }) (.int .i64 2)).run Tryz.prog w = .ok (.int .u8 76) w := by kernel_rfl
theorem mag_ix3 (w : World) : (Instr.index 9 (.string { data := #[127, 69, 76, 70, 2, 1, 1] }) (.int .i64 3)).run Tryz.prog w = .ok (.int .u8 70) w := by kernel_rfl
theorem mag_ix4 (w : World) : (Instr.index 9 (.string { data := #[127, 69, 76, 70, 2, 1, 1] }) (.int .i64 4)).run Tryz.prog w = .ok (.int .u8 2) w := by kernel_rfl
theorem mag_ix5 (w : World) : (Instr.index 9 (.string { data := #[127, 69, 76, 70, 2, 1, 1] }) (.int .i64 5)).run Tryz.prog w = .ok (.int .u8 1) w := by kernel_rfl
theorem mag_ix6 (w : World) : (Instr.index 9 (.string { data := #[127, 69, 76, 70, 2, 1, 1] }) (.int .i64 6)).run Tryz.prog w = .ok (.int .u8 1) w := by kernel_rfl
theorem mag_ix (q : Nat) (hq : q < 7) (w : World) : (Instr.index 9 (.string { data := #[127, 69, 76, 70, 2, 1, 1] }) (.int .i64 (q : Int))).run Tryz.prog w = .ok (.int .u8 (magL.getD q 0)) w := by
  have h : q = 0 ∨ q = 1 ∨ q = 2 ∨ q = 3 ∨ q = 4 ∨ q = 5 ∨ q = 6 := by omega
  rcases h with h | h | h | h | h | h | h
  · subst h; exact mag_ix0 w
  · subst h; exact mag_ix1 w
  · subst h; exact mag_ix2 w
  · subst h; exact mag_ix3 w
  · subst h; exact mag_ix4 w
  · subst h; exact mag_ix5 w
  · subst h; exact mag_ix6 w
set_option maxRecDepth 100000 in
set_option maxHeartbeats 8000000 in
theorem checkIdentity_c {b : List Int} (hB : AllB b) (hl : b.length ≤ 200000) (vb : Value) (w : World) (hv : Byt w vb b) :
    Calls Tryz.prog 28 #[.agg #[vb]] w fun e w' => (idF b 7 0 = none ∧ e = .returned (.tuple #[]) ∧ Below w.heap.size w w') ∨ (∃ F, idF b 7 0 = some F ∧ Pan w F e w') := by
  have HV : Hid (∀ w', Below w.heap.size w w' → Byt w' vb b) := fun w' hb => hv.later hb rfl
  have HB : Hid (AllB b) := hB
  obtain ⟨a, cap, rfl, hc, _, _⟩ := hv
  have HBL : Hid (Below w.heap.size w (w.alloc (.cells #[.slice a b.length cap] 54))) := (Below.refl _ _).alloc (Nat.le_refl _) _
  have hlI : (b.length : Int) ≤ 200000 := by omega
  have k0 : (w.alloc (.cells #[.slice a b.length cap] 54)).cell? ⟨w.heap.size, 0, none⟩ = some (.slice a b.length cap) := by simp
  have HLt : Hid (w.heap.size < (w.alloc (.cells #[.slice a b.length cap] 54)).heap.size) := by unfold Hid; simp
  have HC0 : Hid (∀ w', Below (w.alloc (.cells #[.slice a b.length cap] 54)).heap.size (w.alloc (.cells #[.slice a b.length cap] 54)) w' → w'.cell? ⟨w.heap.size, 0, none⟩ = some (.slice a b.length cap)) := fun w' hb => (hb.cell HLt.out).trans k0
  go_enter Tryz.func28, Tryz.ntmps28
  go_wp2
  generalize (w.alloc (.cells #[.slice a b.length cap] 54)) = w1 at *
  go_loopw [2, 3] (fun _ i wr => ∃ q : Nat, q ≤ 7 ∧ i = .int .i64 q ∧ Hid (idF b (7 - q) q = idF b 7 0) ∧ Hid (Below w1.heap.size w1 wr)) (fun _ i _ => 7 - (intOf i).toNat)
  case atStart => exact ⟨0, by omega, rfl, rfl, Below.refl _ _⟩
  case round =>
    obtain ⟨q, hq, rfl, HF, hw⟩ := hrel
    have HBW : Hid (Below w.heap.size w wr) := HBL.out.trans (hw.out.mono HBL.out.size)
    have c0 := HC0.out wr hw.out
    by_cases hlt : q < 7
    · have hltI : (q : Int) < 7 := by omega
      have e7 : 7 - q = (6 - q) + 1 := by omega
      by_cases h1 : b.length ≤ q
      · have h1I : (b.length : Int) ≤ q := by omega
        have HE : Hid (idF b 7 0 = some (b.length, 20)) := by unfold Hid; rw [← HF.out, e7]; exact idF_end h1
        clear h1 e7
        go_wp2_with (go_at_call 27; refine (refuse_t 20 b.length _).mono ?_; rintro e w9 ⟨g, rfl, h2, h3, h4⟩)
        exact ⟨rfl, .inr ⟨_, HE.out, Pan.later HBW.out ⟨g, rfl, h2, h3, h4⟩⟩⟩
      · have h1n : ¬ ((b.length : Int) ≤ q) := by omega
        obtain ⟨_, _, he, _, _, hr⟩ := HV.out wr HBW.out
        simp only [Value.slice.injEq] at he
        obtain ⟨rfl, _, rfl⟩ := he
        obtain ⟨g, off, rfl, _, hcell⟩ := hr (by intro e; rw [e] at h1; exact h1 (Nat.zero_le _))
        have hce := hcell q (by omega)
        have hby := getD_byte HB.out q
        have hix := mag_ix q hlt
        clear hcell
        by_cases h2 : b.getD q 0 = magL.getD q 0
        · have HE : Hid (idF b (7 - (q + 1)) (q + 1) = idF b 7 0) := by unfold Hid; rw [← HF.out, e7, idF_go h1 h2, show 7 - (q + 1) = 6 - q by omega]
          rw [h2] at hce hby
          generalize magL.getD q 0 = z at *
          clear h1 h2 e7
          have hzz : (z != z) = false := by simp
          go_upto_region 5 with (go_at_call 27; refine (refuse_f _ _ _).mono ?_; rintro e w' ⟨rfl, rfl⟩)
          have h1I : (q : Int) < b.length := by omega
          go_region_with (go_at_call 27; refine (refuse_f _ _ _).mono ?_; rintro e w' ⟨rfl, rfl⟩)
          all_goals go_wp2
          all_goals
            go_roundw
            case rel => exact ⟨q + 1, by omega, by go_num, HE, hw.out.drew⟩
            case measure => simp only [intOf]; omega
        · have HE : Hid (idF b 7 0 = some (q, 21)) := by unfold Hid; rw [← HF.out, e7]; exact idF_bad h1 h2
          generalize b.getD q 0 = z at *
          generalize magL.getD q 0 = y at *
          have hzy : (z != y) = true := by simp [h2]
          clear h1 h2 e7
          go_upto_region 5 with (go_at_call 27; refine (refuse_f _ _ _).mono ?_; rintro e w' ⟨rfl, rfl⟩)
          have h1I : (q : Int) < b.length := by omega
          go_region_with (go_at_call 27; refine (refuse_t 21 q _).mono ?_; intro e w9 hpan; cases e; rotate_left 1; (obtain ⟨g9, he, p2, p3, p4⟩ := hpan; cases he; exact ⟨rfl, .inr ⟨_, HE.out, Pan.later HBW.out.drew ⟨g9, rfl, p2, p3, p4⟩⟩⟩); (obtain ⟨g9, he, p2, p3, p4⟩ := hpan; cases he); (have HFL : Hid False := (by obtain ⟨g9, he, p2, p3, p4⟩ := hpan; cases he)); clear hpan)
          all_goals exact HFL.out.elim
    · obtain rfl : q = 7 := by omega
      have hltI : ¬ ((7 : Nat) : Int) < 7 := by omega
      go_wp2
      first | go_end0 | refine bodyPost_ret (results_none rfl _ _ _) rfl ?_
      exact .inl ⟨HF.out.symm, rfl, HBW.out⟩
end Go.Proofs.YtopddflnahfomaaGreatDoor
namespace Go.Proofs.YtopddflnahfomaaGreatDoor
set_option linter.unusedVariables false
open Go.ChangeShapes Go.WideShapes Go.ChangeAt Go.RowKit Go.Deep
theorem or_ne (A B : Nat) (hA : A < 18446744073709551616) (hB : B < 18446744073709551616) : (bits .or .u64 (A : Int) (B : Int) != 0) = decide (¬ (A = 0 ∧ B = 0)) := by
  rw [nat64 hA, nat64 hB, n64_or]
  have e : (n64 (BitVec.ofNat 64 A ||| BitVec.ofNat 64 B) = 0) ↔ (A = 0 ∧ B = 0) := by
    unfold n64
    rw [BitVec.toNat_or, BitVec.toNat_ofNat, BitVec.toNat_ofNat, Nat.mod_eq_of_lt (by omega), Nat.mod_eq_of_lt (by omega)]
    constructor
    · intro h
      have h0 : A ||| B = 0 := by omega
      exact Nat.or_eq_zero_iff.1 h0
    · rintro ⟨rfl, rfl⟩; rfl
  by_cases h : A = 0 ∧ B = 0
  · rw [e.2 h, decide_eq_false (fun q => q h)]; rfl
  · rw [decide_eq_true h, bne_iff_ne]; exact fun q => h (e.1 q)
set_option maxRecDepth 100000 in
set_option maxHeartbeats 4000000 in
theorem isPart_c {b : List Int} (hB : AllB b) (hl : b.length ≤ 200000) (vb : Value) (h : Nat) (hh : h + 56 ≤ b.length) (w : World) (hv : Byt w vb b) :
    Calls Tryz.prog 49 #[.agg #[vb], .int .i64 h] w fun e w' => e = .returned (.bool (decide (isPt b h))) ∧ Below w.heap.size w w' := by
  have HV : Hid (∀ w', Below w.heap.size w w' → Byt w' vb b) := fun w' hb => hv.later hb rfl
  have HB : Hid (AllB b) := hB
  obtain ⟨a, cap, rfl, hc, _, _⟩ := hv
  have HBL : Hid (Below w.heap.size w (w.alloc (.cells #[.slice a b.length cap] 54))) := (Below.refl _ _).alloc (Nat.le_refl _) _
  have hlI : (b.length : Int) ≤ 200000 := by omega
  have k0 : (w.alloc (.cells #[.slice a b.length cap] 54)).cell? ⟨w.heap.size, 0, none⟩ = some (.slice a b.length cap) := by simp
  have HLt : Hid (w.heap.size < (w.alloc (.cells #[.slice a b.length cap] 54)).heap.size) := by unfold Hid; simp
  have HC0 : Hid (∀ w', Below (w.alloc (.cells #[.slice a b.length cap] 54)).heap.size (w.alloc (.cells #[.slice a b.length cap] 54)) w' → w'.cell? ⟨w.heap.size, 0, none⟩ = some (.slice a b.length cap)) := fun w' hb => (hb.cell HLt.out).trans k0
  have cN : Hid (∀ wx, Below (w.alloc (.cells #[.slice a b.length cap] 54)).heap.size (w.alloc (.cells #[.slice a b.length cap] 54)) wx → ∀ pI : Int, pI = ((h : Nat) : Int) → Calls Tryz.prog 47 #[.agg #[.slice a b.length cap], .int .i64 pI] wx fun e w' => e = .returned (.int .u64 ((vl b (h) 4 : Nat) : Int)) ∧ Below (w.alloc (.cells #[.slice a b.length cap] 54)).heap.size (w.alloc (.cells #[.slice a b.length cap] 54)) w') := fun wx hx pI hpI => ((word_c HB.out hl _ (h) pI hpI (by omega) wx (HV.out _ (HBL.out.trans (hx.mono HBL.out.size)))).mono fun _ _ h => ⟨h.1, hx.trans (h.2.mono hx.size)⟩)
  have cA : Hid (∀ wx, Below (w.alloc (.cells #[.slice a b.length cap] 54)).heap.size (w.alloc (.cells #[.slice a b.length cap] 54)) wx → ∀ pI : Int, pI = ((h + 40 : Nat) : Int) → Calls Tryz.prog 32 #[.agg #[.slice a b.length cap], .int .i64 pI] wx fun e w' => e = .returned (.int .u64 ((vl b (h + 40) 8 : Nat) : Int)) ∧ Below (w.alloc (.cells #[.slice a b.length cap] 54)).heap.size (w.alloc (.cells #[.slice a b.length cap] 54)) w') := fun wx hx pI hpI => ((double_c HB.out hl _ (h + 40) pI hpI (by omega) wx (HV.out _ (HBL.out.trans (hx.mono HBL.out.size)))).mono fun _ _ h => ⟨h.1, hx.trans (h.2.mono hx.size)⟩)
  have cB : Hid (∀ wx, Below (w.alloc (.cells #[.slice a b.length cap] 54)).heap.size (w.alloc (.cells #[.slice a b.length cap] 54)) wx → ∀ pI : Int, pI = ((h + 32 : Nat) : Int) → Calls Tryz.prog 32 #[.agg #[.slice a b.length cap], .int .i64 pI] wx fun e w' => e = .returned (.int .u64 ((vl b (h + 32) 8 : Nat) : Int)) ∧ Below (w.alloc (.cells #[.slice a b.length cap] 54)).heap.size (w.alloc (.cells #[.slice a b.length cap] 54)) w') := fun wx hx pI hpI => ((double_c HB.out hl _ (h + 32) pI hpI (by omega) wx (HV.out _ (HBL.out.trans (hx.mono HBL.out.size)))).mono fun _ _ h => ⟨h.1, hx.trans (h.2.mono hx.size)⟩)
  have hhI : (h : Int) + 56 ≤ b.length := by omega
  have hhJ : (h : Int) ≤ 200000 := by omega
  have lN := vl_lt8 hB h 4 (by omega)
  have lA := vl_lt8 hB (h + 40) 8 (by omega)
  have lB := vl_lt8 hB (h + 32) 8 (by omega)
  obtain ⟨d, hd⟩ : ∃ d, d = decide (isPt b h) := ⟨_, rfl⟩
  have HD : Hid (d = decide (vl b h 4 = 1 ∧ ¬ (vl b (h + 40) 8 = 0 ∧ vl b (h + 32) 8 = 0))) := hd
  rw [← hd]
  clear hd
  obtain ⟨N, hN⟩ : ∃ N, N = vl b h 4 := ⟨_, rfl⟩
  obtain ⟨A, hA⟩ : ∃ A, A = vl b (h + 40) 8 := ⟨_, rfl⟩
  obtain ⟨B, hBB⟩ : ∃ B, B = vl b (h + 32) 8 := ⟨_, rfl⟩
  have HNN : Hid (N = vl b h 4) := hN
  rw [← hN] at cN lN HD
  rw [← hA] at cA lA HD
  rw [← hBB] at cB lB HD
  clear hN hA hBB hB
  have HAB : Hid ((bits .or .u64 (A : Int) (B : Int) != 0) = decide (¬ (A = 0 ∧ B = 0))) := or_ne A B lA lB
  have lNI : (N : Int) < 18446744073709551616 := by omega
  by_cases hN1 : N = 1
  · have hN1I : ((N : Int) == 1) = true := by rw [hN1]; rfl
    have HE : Hid (d = decide (¬ (A = 0 ∧ B = 0))) := by unfold Hid; rw [HD.out]; simp [hN1]
    clear hN1 HD
    go_enter Tryz.func49, Tryz.ntmps49
    go_upto_region 1 with fail
    generalize (w.alloc (.cells #[.slice a b.length cap] 54)) = w1 at *
    have HW : Hid (Below w1.heap.size w1 w1) := Below.refl _ _
    go_region_held3 (fun w' => w'.cell? ⟨w.heap.size, 0, none⟩ = some (.slice a b.length cap)) (first | exact HC0.out _ HW.out | exact HC0.out _ (Below.drew HW.out)) (first
      | (go_at_call 47; refine (cN.out _ (by first | exact HW.out | exact Below.drew HW.out) _ (by first | omega | (rw [IntKind.wrap_i64]; omega))).mono ?_; rintro e w2 ⟨rfl, hb⟩; clear HW; have HW : Hid (Below w1.heap.size w1 w2) := hb; clear hb)
      | (go_at_call 32; refine (cA.out _ (by first | exact HW.out | exact Below.drew HW.out) _ (by first | omega | (rw [IntKind.wrap_i64]; omega))).mono ?_; rintro e w3 ⟨rfl, hb⟩; clear HW; have HW : Hid (Below w1.heap.size w1 w3) := hb; clear hb)
      | (go_at_call 32; refine (cB.out _ (by first | exact HW.out | exact Below.drew HW.out) _ (by first | omega | (rw [IntKind.wrap_i64]; omega))).mono ?_; rintro e w4 ⟨rfl, hb⟩; clear HW; have HW : Hid (Below w1.heap.size w1 w4) := hb; clear hb))
    all_goals go_wp2
    all_goals go_ret
    all_goals exact ⟨by rw [HE.out, ← HAB.out]; first | rfl | simp, HBL.out.trans (HW.out.mono HBL.out.size)⟩
  · have hN1I : ((N : Int) == 1) = false := by rw [beq_eq_false_iff_ne]; omega
    have hN1d : decide ((N : Int) = 1) = false := by rw [decide_eq_false_iff_not]; omega
    have hN1n : ¬ ((N : Int) = 1) := by omega
    have HE : Hid (d = false) := by unfold Hid; rw [HD.out]; simp [hN1]
    clear hN1 HD
    go_enter Tryz.func49, Tryz.ntmps49
    go_upto_region 1 with fail
    have cNx := fun (x : Later (w.alloc (.cells #[.slice a b.length cap] 54))) (pI : Int) (hpI : pI = ((h : Nat) : Int)) => word_c HB.out hl _ h pI hpI (by omega) x.1 (HV.out _ (HBL.out.trans (x.2.mono HBL.out.size)))
    rw [← HNN.out] at cNx
    generalize (w.alloc (.cells #[.slice a b.length cap] 54)) = w1 at *
    have HW : Hid (Below w1.heap.size w1 w1) := Below.refl _ _
    have hne := later_nonempty w1
    have hc1 : ∀ x : Later w1, x.1.cell? ⟨w.heap.size, 0, none⟩ = some (.slice a b.length cap) := fun x => HC0.out x.1 x.2
    have cN2 : Hid (∀ x : Later w1, ∀ pI : Int, pI = ((h : Nat) : Int) → Calls Tryz.prog 47 #[.agg #[.slice a b.length cap], .int .i64 pI] x.1 fun e w' => e = .returned (.int .u64 (N : Int)) ∧ Below x.1.heap.size x.1 w') := cNx
    refine wp_region_later (x0 := Later.start w1) (by kernel_rfl) (by kernel_rfl) ?_
    repeat (go_big_quiet_step ((first | (go_at_call 47; exact calls_later (cN2.out _ _ (by first | omega | (rw [IntKind.wrap_i64]; omega)))))))
    refine wpQuiet_nil ?_
    rintro _ ⟨yq, rfl⟩
    go_wp2
    go_ret
    exact ⟨by rw [HE.out]; first | rfl | simp, HBL.out.trans (yq.2.mono HBL.out.size)⟩
end Go.Proofs.YtopddflnahfomaaGreatDoor
namespace Go.Proofs.YtopddflnahfomaaGreatDoor
set_option linter.unusedVariables false
open Go.ChangeShapes Go.WideShapes Go.ChangeAt Go.RowKit Go.Deep
set_option maxRecDepth 100000 in
set_option maxHeartbeats 4000000 in
theorem meet_c (x1 y1 x2 y2 : BitVec 64) (f1 f2 : Int) (m1 m2 : Option Addr) (n1 n2 c1 c2 : Nat) (w : World) :
    Calls Tryz.prog 67 #[.agg #[.int .u64 (n64 x1), .int .u64 (n64 y1), .int .i64 f1, .slice m1 n1 c1], .agg #[.int .u64 (n64 x2), .int .u64 (n64 y2), .int .i64 f2, .slice m2 n2 c2]] w fun e w' => e = .returned (.bool (meetB x1 y1 x2 y2)) ∧ Below w.heap.size w w' := by
  have r1 : Hid (∀ x : Later ((w.alloc (.cells #[.int .u64 (n64 x1), .int .u64 (n64 y1), .int .i64 f1, .slice m1 n1 c1] 42)).alloc (.cells #[.int .u64 (n64 x2), .int .u64 (n64 y2), .int .i64 f2, .slice m2 n2 c2] 42)), x.1.heap[w.heap.size]? = some (.cells #[.int .u64 (n64 x1), .int .u64 (n64 y1), .int .i64 f1, .slice m1 n1 c1] 42 (0, 0)) ∧ x.1.heap[w.heap.size + 1]? = some (.cells #[.int .u64 (n64 x2), .int .u64 (n64 y2), .int .i64 f2, .slice m2 n2 c2] 42 (0, 0))) := fun x =>
    ⟨by rw [x.2.block _ (by simp; omega)]; exact heap_alloc2_old w _ _, by rw [x.2.block _ (by simp)]; exact heap_alloc2_new w _ _⟩
  have HBL : Hid (Below w.heap.size w ((w.alloc (.cells #[.int .u64 (n64 x1), .int .u64 (n64 y1), .int .i64 f1, .slice m1 n1 c1] 42)).alloc (.cells #[.int .u64 (n64 x2), .int .u64 (n64 y2), .int .i64 f2, .slice m2 n2 c2] 42))) := ((Below.refl _ _).alloc (Nat.le_refl _) _).alloc (by simp) _
  obtain ⟨d, hd⟩ : ∃ d, d = meetB x1 y1 x2 y2 := ⟨_, rfl⟩
  rw [← hd]
  have HD : Hid (d = meetB x1 y1 x2 y2) := hd
  clear hd
  have cL1 := fun (wx : World) => last_c x1 y1 f1 (.slice m1 n1 c1) rfl wx
  have cL2 := fun (wx : World) => last_c x2 y2 f2 (.slice m2 n2 c2) rfl wx
  obtain ⟨z1, hz1⟩ : ∃ z, z = n64 (x1 + (y1 - 1#64)) := ⟨_, rfl⟩
  obtain ⟨z2, hz2⟩ : ∃ z, z = n64 (x2 + (y2 - 1#64)) := ⟨_, rfl⟩
  rw [← hz1] at cL1
  rw [← hz2] at cL2
  have HZ : Hid (meetB x1 y1 x2 y2 = (decide (n64 x1 ≤ z2) && decide (n64 x2 ≤ z1))) := by unfold Hid meetB; rw [← hz1, ← hz2]
  have HC1 : Hid (∀ wx : World, Calls Tryz.prog 35 #[.agg #[.int .u64 (n64 x1), .int .u64 (n64 y1), .int .i64 f1, .slice m1 n1 c1]] wx fun e w' => e = .returned (.int .u64 z1) ∧ Below wx.heap.size wx w') := cL1
  have HC2 : Hid (∀ wx : World, Calls Tryz.prog 35 #[.agg #[.int .u64 (n64 x2), .int .u64 (n64 y2), .int .i64 f2, .slice m2 n2 c2]] wx fun e w' => e = .returned (.int .u64 z2) ∧ Below wx.heap.size wx w') := cL2
  clear cL1 cL2 hz1 hz2
  generalize n64 x1 = X1 at *
  generalize n64 x2 = X2 at *
  generalize n64 y1 = Y1 at *
  generalize n64 y2 = Y2 at *
  by_cases h1 : X1 ≤ z2
  · have HE : Hid (d = decide (X2 ≤ z1)) := by unfold Hid; rw [HD.out, HZ.out, decide_eq_true h1]; rfl
    go_enter Tryz.func67, Tryz.ntmps67
    go_upto_region 1 with fail
    generalize ((w.alloc (.cells #[.int .u64 X1, .int .u64 Y1, .int .i64 f1, .slice m1 n1 c1] 42)).alloc (.cells #[.int .u64 X2, .int .u64 Y2, .int .i64 f2, .slice m2 n2 c2] 42)) = w1 at *
    have hne := later_nonempty w1
    have a0 : ∀ x : Later w1, x.1.cell? ⟨w.heap.size, 0, none⟩ = some (.int .u64 X1) := fun x => cell_of_row x.1 _ 0 _ _ _ (r1.out x).1
    have a1 : ∀ x : Later w1, x.1.cell? ⟨w.heap.size, 1, none⟩ = some (.int .u64 Y1) := fun x => cell_of_row x.1 _ 1 _ _ _ (r1.out x).1
    have a2 : ∀ x : Later w1, x.1.cell? ⟨w.heap.size, 2, none⟩ = some (.int .i64 f1) := fun x => cell_of_row x.1 _ 2 _ _ _ (r1.out x).1
    have a3 : ∀ x : Later w1, x.1.cell? ⟨w.heap.size, 3, none⟩ = some (.slice m1 n1 c1) := fun x => cell_of_row x.1 _ 3 _ _ _ (r1.out x).1
    have e0 : ∀ x : Later w1, x.1.cell? ⟨w.heap.size + 1, 0, none⟩ = some (.int .u64 X2) := fun x => cell_of_row x.1 _ 0 _ _ _ (r1.out x).2
    have e1 : ∀ x : Later w1, x.1.cell? ⟨w.heap.size + 1, 1, none⟩ = some (.int .u64 Y2) := fun x => cell_of_row x.1 _ 1 _ _ _ (r1.out x).2
    have e2 : ∀ x : Later w1, x.1.cell? ⟨w.heap.size + 1, 2, none⟩ = some (.int .i64 f2) := fun x => cell_of_row x.1 _ 2 _ _ _ (r1.out x).2
    have e3 : ∀ x : Later w1, x.1.cell? ⟨w.heap.size + 1, 3, none⟩ = some (.slice m2 n2 c2) := fun x => cell_of_row x.1 _ 3 _ _ _ (r1.out x).2
    refine wp_region_later (x0 := Later.start w1) (by kernel_rfl) (by kernel_rfl) ?_
    repeat (go_big_quiet_step ((first | (go_at_call 35; first | exact calls_later (HC2.out _) | exact calls_later (HC1.out _)))))
    refine wpQuiet_nil ?_
    rintro _ ⟨yq, rfl⟩
    go_wp2
    go_ret
    exact ⟨by rw [HE.out]; first | rfl | simp, HBL.out.trans (yq.2.mono HBL.out.size)⟩
  · have HE : Hid (d = false) := by unfold Hid; rw [HD.out, HZ.out, decide_eq_false h1]; rfl
    have h1d : decide (X1 ≤ z2) = false := decide_eq_false h1
    go_enter Tryz.func67, Tryz.ntmps67
    go_upto_region 1 with fail
    generalize ((w.alloc (.cells #[.int .u64 X1, .int .u64 Y1, .int .i64 f1, .slice m1 n1 c1] 42)).alloc (.cells #[.int .u64 X2, .int .u64 Y2, .int .i64 f2, .slice m2 n2 c2] 42)) = w1 at *
    have hne := later_nonempty w1
    have a0 : ∀ x : Later w1, x.1.cell? ⟨w.heap.size, 0, none⟩ = some (.int .u64 X1) := fun x => cell_of_row x.1 _ 0 _ _ _ (r1.out x).1
    have e0 : ∀ x : Later w1, x.1.cell? ⟨w.heap.size + 1, 0, none⟩ = some (.int .u64 X2) := fun x => cell_of_row x.1 _ 0 _ _ _ (r1.out x).2
    have e1 : ∀ x : Later w1, x.1.cell? ⟨w.heap.size + 1, 1, none⟩ = some (.int .u64 Y2) := fun x => cell_of_row x.1 _ 1 _ _ _ (r1.out x).2
    have e2 : ∀ x : Later w1, x.1.cell? ⟨w.heap.size + 1, 2, none⟩ = some (.int .i64 f2) := fun x => cell_of_row x.1 _ 2 _ _ _ (r1.out x).2
    have e3 : ∀ x : Later w1, x.1.cell? ⟨w.heap.size + 1, 3, none⟩ = some (.slice m2 n2 c2) := fun x => cell_of_row x.1 _ 3 _ _ _ (r1.out x).2
    refine wp_region_later (x0 := Later.start w1) (by kernel_rfl) (by kernel_rfl) ?_
    repeat (go_big_quiet_step ((first | (go_at_call 35; exact calls_later (HC2.out _)))))
    refine wpQuiet_nil ?_
    rintro _ ⟨yq, rfl⟩
    go_wp2
    go_ret
    exact ⟨by rw [HE.out]; first | rfl | simp, HBL.out.trans (yq.2.mono HBL.out.size)⟩
end Go.Proofs.YtopddflnahfomaaGreatDoor
namespace Go.Proofs.YtopddflnahfomaaGreatDoor
set_option linter.unusedVariables false
open Go.ChangeShapes Go.WideShapes Go.ChangeAt Go.RowKit Go.Deep
/-- Bytes appended to a list of the call's own. -/
theorem appL {ops : Array Oper} {rest : List Oper} {o : Oper} {a : Act} {w : World} {Q : Exit → Act → World → Prop} (hgd : o.guard = none) (s x : Operand) (ho : o.op = .call { callee := .builtin .append, args := #[s, x], argTypes := #[29, 29] })
    (B : Nat) (v u : Value) (m l : List Int) (hs : a.eval s = v) (hown : w.ownsRow B 5 1 v m.length (bv m)) (hx : a.eval x = u) (hu : Byt w u l) (hl : m.length + l.length ≤ 140737488355328) (hB : B ≤ w.heap.size)
    (h : ∀ v' w', w'.ownsRow B 5 1 v' (m ++ l).length (bv (m ++ l)) → w.grownBy w' v.ownBlock → wpList Tryz.prog ops Q rest (a.put o.dst v') w') :
    wpList Tryz.prog ops Q (o :: rest) a w := by
  obtain ⟨i0, hi, hz0, hz1, hz2⟩ := info_parts info5
  obtain ⟨ao, cap, rfl, h1, h1', h2⟩ := hu
  cases ao with
  | none =>
    have hc := h1' rfl
    have hl0 : l = [] := List.eq_nil_of_length_eq_zero (by omega)
    subst hl0; subst hc
    refine wpList_append_own_none hgd s x 29 ho B 5 i0 1 Tryz.underlying29 hi v m.length (bv m) hs hown hx ?_
    exact h _ _ (by simpa using hown) (World.grownBy.refl _ _)
  | some ad =>
    refine wpList_append_own _ hgd s x 29 ho B 5 i0 (.int .u8 0) 1 1 Tryz.underlying29 hi hz0 hz1 hz2 rfl (by decide) v m.length (bv m) hs hown ad l.length cap (bv l) hx (by simp [bv]) ?_ ?_ (by unfold maxLen; omega) (by omega) hB ?_
    · intro j w2 hj
      have hjl : j < l.length := by have := (List.getElem?_eq_some_iff.1 hj).1; simpa [bv] using this
      obtain ⟨g, off, he, h3, h4⟩ := h2 (by intro e; rw [e] at hjl; simp at hjl)
      cases he
      rw [bv_get _ _ hjl] at hj
      cases hj
      rw [addAt]
      exact h4 j hjl
    · intro w2 hw2; simp [bv] at hw2; obtain ⟨q, _, rfl⟩ := hw2; rfl
    · intro v' w' g1 g2 g3
      exact h v' w' (by simpa [bv] using g1) g2
/-- A copy as new memory. -/
theorem clone_c {l : List Int} (hl : l.length ≤ 140737488355328) (v : Value) (w : World) (hv : Byt w v l) :
    Calls Tryz.prog 68 #[v] w fun e w' => ∃ u, e = .returned u ∧ w'.ownsRow w.heap.size 5 1 u l.length (bv l) ∧ Below w.heap.size w w' := by
  have HV : Hid (Byt w v l) := hv
  obtain ⟨ao, cap, rfl, h1, h1', h2⟩ := hv
  have qT : ∀ (w : World) (a : Option Addr) (n c n' c' : Nat), (binOp .eql 29 (.slice a n c) (.slice none n' c')).run Tryz.prog w = .ok (.bool a.isNone) w := fun w a n c n' c' => Lib.run_eql_slice_nil w _ _ a n c n' c' Tryz.underlying29
  have HW : Hid ((w.alloc (.cells #[] 5)).ownsRow w.heap.size 5 1 (.slice (some ⟨w.heap.size, 0, none⟩) 0 0) 0 (bv [])) := World.ownsRow_made w #[] 0 (Nat.le_refl _) (Nat.zero_le _) rfl
  have HB : Hid (Below w.heap.size w (w.alloc (.cells #[] 5))) := (Below.refl _ _).alloc (Nat.le_refl _) _
  have HV2 : Hid (Byt (w.alloc (.cells #[] 5)) (.slice ao l.length cap) l) := HV.out.later HB.out rfl
  clear h2
  cases ao with
  | none =>
    have hc := h1' rfl
    have hl0 : l = [] := List.eq_nil_of_length_eq_zero (by omega)
    subst hl0
    clear HV HW HB HV2
    go_enter Tryz.func68, Tryz.ntmps68
    go_wp2
    go_ret
    exact ⟨_, rfl, World.ownsRow_nil _ _ _ _, Below.refl _ _⟩
  | some ad =>
    go_enter Tryz.func68, Tryz.ntmps68
    go_wp2_with (at_builtin; refine appL (by rfl) _ _ (by rfl) w.heap.size _ _ [] l (by rfl) HW.out (by rfl) HV2.out (by simpa using hl) (by simp) ?_; intro v' w1 hown1 hg1)
    have HO : Hid (w1.ownsRow w.heap.size 5 1 v' l.length (bv l)) := hown1
    have HG : Hid (Below w.heap.size w w1) := Below.grown HB.out hg1 (by simp) (fun k hk => (HW.out.lt k hk).1)
    clear hown1 hg1 HW HV2 HB
    go_wp2
    go_ret
    exact ⟨_, rfl, HO.out, HG.out⟩
theorem mirrorN_c (z : Nat) (h : z ≤ 7) (w : World) : Calls Tryz.prog 40 #[.int .i64 (z : Int)] w fun e w' => e = .returned (.int .i64 ((fwN z : Nat) : Int)) ∧ w' = w := by
  have h8 : z = 0 ∨ z = 1 ∨ z = 2 ∨ z = 3 ∨ z = 4 ∨ z = 5 ∨ z = 6 ∨ z = 7 := by omega
  clear h
  rcases h8 with rfl | rfl | rfl | rfl | rfl | rfl | rfl | rfl
  · go_enter Tryz.func40, Tryz.ntmps40
    go_wp2
    go_ret
    exact ⟨ret_int (by decide +kernel), rfl⟩
  · go_enter Tryz.func40, Tryz.ntmps40
    go_wp2
    go_ret
    exact ⟨ret_int (by decide +kernel), rfl⟩
  · go_enter Tryz.func40, Tryz.ntmps40
    go_wp2
    go_ret
    exact ⟨ret_int (by decide +kernel), rfl⟩
  · go_enter Tryz.func40, Tryz.ntmps40
    go_wp2
    go_ret
    exact ⟨ret_int (by decide +kernel), rfl⟩
  · go_enter Tryz.func40, Tryz.ntmps40
    go_wp2
    go_ret
    exact ⟨ret_int (by decide +kernel), rfl⟩
  · go_enter Tryz.func40, Tryz.ntmps40
    go_wp2
    go_ret
    exact ⟨ret_int (by decide +kernel), rfl⟩
  · go_enter Tryz.func40, Tryz.ntmps40
    go_wp2
    go_ret
    exact ⟨ret_int (by decide +kernel), rfl⟩
  · go_enter Tryz.func40, Tryz.ntmps40
    go_wp2
    go_ret
    exact ⟨ret_int (by decide +kernel), rfl⟩
end Go.Proofs.YtopddflnahfomaaGreatDoor
