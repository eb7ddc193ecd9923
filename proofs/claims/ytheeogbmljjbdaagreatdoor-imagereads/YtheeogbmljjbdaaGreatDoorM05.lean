/-
  Ird Ire.
-/
import Derived.Test.YtheeogbmljjbdaaGreatDoorM04
import Derived.Deep.RegionWith
import Derived.Deep.RegionLaw
import Derived.Deep.RegionHeld3
import Derived.BigQuiet
import Derived.Deep.QuietTactic
namespace Go.Proofs.YtheeogbmljjbdaaGreatDoor
set_option linter.unusedVariables false
open Go.ChangeShapes Go.WideShapes Go.ChangeAt Go.RowKit Go.Deep
theorem and_left_of {P : Prop} (h : P) (_ : True) : P := h
theorem idF_end {b : List Int} {r i : Nat} (h1 : b.length ≤ i) : idF b (r + 1) i = some (b.length, 20) := by rw [idF, if_pos h1]
theorem idF_bad {b : List Int} {r i : Nat} (h1 : ¬ b.length ≤ i) (h2 : b.getD i 0 ≠ magL.getD i 0) : idF b (r + 1) i = some (i, 21) := by rw [idF, if_neg h1, if_pos h2]
theorem idF_go {b : List Int} {r i : Nat} (h1 : ¬ b.length ≤ i) (h2 : b.getD i 0 = magL.getD i 0) : idF b (r + 1) i = idF b r (i + 1) := by rw [idF, if_neg h1, if_neg (fun h => h h2)]
theorem mag_ix0 (w : World) : (Instr.index 9 (.string { data := #[127, 69, 76, 70, 2, 1, 1] }) (.int .i64 0)).run Tryz.prog w = .ok (.int .u8 127) w := by kernel_rfl
theorem mag_ix1 (w : World) : (Instr.index 9 (.string { data := #[127, 69, 76, 70, 2, 1, 1] }) (.int .i64 1)).run Tryz.prog w = .ok (.int .u8 69) w := by kernel_rfl
theorem mag_ix2 (w : World) : (Instr.index 9 (.string { data := #[127, 69, 76, 70, 2, 1, 1] }) (.int .i64 2)).run Tryz.prog w = .ok (.int .u8 76) w := by kernel_rfl
theorem mag_ix3 (w : World) : (Instr.index 9 (.string { data := #[127, 69, 76, 70, 2, 1, 1] }) (.int .i64 3)).run Tryz.prog w = .ok (.int .u8 70) w := by kernel_rfl
theorem mag_ix4 (w : World) : (Instr.index 9 (.string { data := #[127, 69, 76, 70, 2, 1, 1] }) (.int .i64 4)).run Tryz.prog w = .ok (.int .u8 2) w := by kernel_rfl
theorem mag_ix5 (w : World) : (Instr.index 9 (.string { data := #[127, 69, 76, 70, 2, 1, 1] }) (.int .i64 5)).run Tryz.prog w = .ok (.int .u8 1) w := by kernel_rfl
theorem mag_ix6 (w : World) : (Instr.index 9 (.string { data := #[127, 69, 76, 70, 2, 1, 1] }) (.int .i64 6)).run Tryz.prog w = .ok (.int .u8 1) w := by kernel_rfl
theorem mag_ix (q : Nat) (hq : q < 7) (w : World) : (Instr.index 9 (.string { data := #[127, 69, 76, 70, 2, 1, 1] }) (.int .i64 (q : Int))).run Tryz.prog w = .ok (.int .u8 (magL.getD q 0)) w := by
  have h : q = 0 ∨ q = 1 ∨ q = 2 ∨ q = 3 ∨ q = 4 ∨ q = 5 ∨ q = 6 := by omega
  rcases h with h | h | h | h | h | h | h
  · subst h; exact mag_ix0 w
  · subst h; exact mag_ix1 w
  · subst h; exact mag_ix2 w
  · subst h; exact mag_ix3 w
  · subst h; exact mag_ix4 w
  · subst h; exact mag_ix5 w
  · subst h; exact mag_ix6 w
set_option maxRecDepth 100000 in
set_option maxHeartbeats 8000000 in
theorem checkIdentity_c {b : List Int} (hB : AllB b) (hl : b.length ≤ 200000) (vb : Value) (w : World) (hv : Byt w vb b) :
    Calls Tryz.prog 52 #[.agg #[vb]] w fun e w' => (idF b 7 0 = none ∧ e = .returned (.tuple #[]) ∧ Below w.heap.size w w') ∨ (∃ F, idF b 7 0 = some F ∧ Pan w F e w') := by
  have HV : Hid (∀ w', Below w.heap.size w w' → Byt w' vb b) := fun w' hb => hv.later hb rfl
  have HB : Hid (AllB b) := hB
  obtain ⟨a, cap, rfl, hc, _, _⟩ := hv
  have HBL : Hid (Below w.heap.size w (w.alloc (.cells #[.slice a b.length cap] 65))) := (Below.refl _ _).alloc (Nat.le_refl _) _
  have hlI : (b.length : Int) ≤ 200000 := by omega
  have k0 : (w.alloc (.cells #[.slice a b.length cap] 65)).cell? ⟨w.heap.size, 0, none⟩ = some (.slice a b.length cap) := by simp
  have HLt : Hid (w.heap.size < (w.alloc (.cells #[.slice a b.length cap] 65)).heap.size) := by unfold Hid; simp
  have HC0 : Hid (∀ w', Below (w.alloc (.cells #[.slice a b.length cap] 65)).heap.size (w.alloc (.cells #[.slice a b.length cap] 65)) w' → w'.cell? ⟨w.heap.size, 0, none⟩ = some (.slice a b.length cap)) := fun w' hb => (hb.cell HLt.out).trans k0
  go_enter Tryz.func52, Tryz.ntmps52
  go_wp2
  generalize (w.alloc (.cells #[.slice a b.length cap] 65)) = w1 at *
  go_loopw [2, 3] (fun _ i wr => ∃ q : Nat, q ≤ 7 ∧ i = .int .i64 q ∧ Hid (idF b (7 - q) q = idF b 7 0) ∧ Hid (Below w1.heap.size w1 wr)) (fun _ i _ => 7 - (intOf i).toNat)
  case atStart => exact ⟨0, by omega, rfl, rfl, Below.refl _ _⟩
  case round =>
    obtain ⟨q, hq, rfl, HF, hw⟩ := hrel
    have HBW : Hid (Below w.heap.size w wr) := HBL.out.trans (hw.out.mono HBL.out.size)
    have c0 := HC0.out wr hw.out
    by_cases hlt : q < 7
    · have hltI : (q : Int) < 7 := by omega
      have e7 : 7 - q = (6 - q) + 1 := by omega
      by_cases h1 : b.length ≤ q
      · have h1I : (b.length : Int) ≤ q := by omega
        have HE : Hid (idF b 7 0 = some (b.length, 20)) := by unfold Hid; rw [← HF.out, e7]; exact idF_end h1
        clear h1 e7
        go_wp2_with (go_at_call 51; refine (refuse_t 20 b.length _).mono ?_; rintro e w9 ⟨g, rfl, h2, h3, h4⟩)
        exact ⟨rfl, .inr ⟨_, HE.out, Pan.later HBW.out ⟨g, rfl, h2, h3, h4⟩⟩⟩
      · have h1n : ¬ ((b.length : Int) ≤ q) := by omega
        obtain ⟨_, _, he, _, _, hr⟩ := HV.out wr HBW.out
        simp only [Value.slice.injEq] at he
        obtain ⟨rfl, _, rfl⟩ := he
        obtain ⟨g, off, rfl, _, hcell⟩ := hr (by intro e; rw [e] at h1; exact h1 (Nat.zero_le _))
        have hce := hcell q (by omega)
        have hby := getD_byte HB.out q
        have hix := mag_ix q hlt
        clear hcell
        by_cases h2 : b.getD q 0 = magL.getD q 0
        · have HE : Hid (idF b (7 - (q + 1)) (q + 1) = idF b 7 0) := by unfold Hid; rw [← HF.out, e7, idF_go h1 h2, show 7 - (q + 1) = 6 - q by omega]
          rw [h2] at hce hby
          generalize magL.getD q 0 = z at *
          clear h1 h2 e7
          have hzz : (z != z) = false := by simp
          go_upto_region 5 with (go_at_call 51; refine (refuse_f _ _ _).mono ?_; rintro e w' ⟨rfl, rfl⟩)
          have h1I : (q : Int) < b.length := by omega
          go_region_with (go_at_call 51; refine (refuse_f _ _ _).mono ?_; rintro e w' ⟨rfl, rfl⟩)
          all_goals go_wp2
          all_goals
            go_roundw
            case rel => exact ⟨q + 1, by omega, by go_num, HE, hw.out.drew⟩
            case measure => simp only [intOf]; omega
        · have HE : Hid (idF b 7 0 = some (q, 21)) := by unfold Hid; rw [← HF.out, e7]; exact idF_bad h1 h2
          generalize b.getD q 0 = z at *
          generalize magL.getD q 0 = y at *
          have hzy : (z != y) = true := by simp [h2]
          clear h1 h2 e7
          go_upto_region 5 with (go_at_call 51; refine (refuse_f _ _ _).mono ?_; rintro e w' ⟨rfl, rfl⟩)
          have h1I : (q : Int) < b.length := by omega
          go_region_with (go_at_call 51; refine (refuse_t 21 q _).mono ?_; intro e w9 hpan; cases e; rotate_left 1; (obtain ⟨g9, he, p2, p3, p4⟩ := hpan; cases he; exact ⟨rfl, .inr ⟨_, HE.out, Pan.later HBW.out.drew ⟨g9, rfl, p2, p3, p4⟩⟩⟩); (obtain ⟨g9, he, p2, p3, p4⟩ := hpan; cases he); (have HFL : Hid False := (by obtain ⟨g9, he, p2, p3, p4⟩ := hpan; cases he)); clear hpan)
          all_goals exact HFL.out.elim
    · obtain rfl : q = 7 := by omega
      have hltI : ¬ ((7 : Nat) : Int) < 7 := by omega
      go_wp2
      first | go_end0 | refine bodyPost_ret (results_none rfl _ _ _) rfl ?_
      exact .inl ⟨HF.out.symm, rfl, HBW.out⟩
end Go.Proofs.YtheeogbmljjbdaaGreatDoor
namespace Go.Proofs.YtheeogbmljjbdaaGreatDoor
set_option linter.unusedVariables false
open Go.ChangeShapes Go.WideShapes Go.ChangeAt Go.RowKit Go.Deep
theorem or_ne (A B : Nat) (hA : A < 18446744073709551616) (hB : B < 18446744073709551616) : (bits .or .u64 (A : Int) (B : Int) != 0) = decide (¬ (A = 0 ∧ B = 0)) := by
  rw [nat64 hA, nat64 hB, n64_or]
  have e : (n64 (BitVec.ofNat 64 A ||| BitVec.ofNat 64 B) = 0) ↔ (A = 0 ∧ B = 0) := by
    unfold n64
    rw [BitVec.toNat_or, BitVec.toNat_ofNat, BitVec.toNat_ofNat, Nat.mod_eq_of_lt (by omega), Nat.mod_eq_of_lt (by omega)]
    constructor
    · intro h
      have h0 : A ||| B = 0 := by omega
      exact Nat.or_eq_zero_iff.1 h0
    · rintro ⟨rfl, rfl⟩; rfl
  by_cases h : A = 0 ∧ B = 0
  · rw [e.2 h, decide_eq_false (fun q => q h)]; rfl
  · rw [decide_eq_true h, bne_iff_ne]; exact fun q => h (e.1 q)
set_option maxRecDepth 100000 in
set_option maxHeartbeats 4000000 in
theorem isPart_c {b : List Int} (hB : AllB b) (hl : b.length ≤ 200000) (vb : Value) (h : Nat) (hh : h + 56 ≤ b.length) (w : World) (hv : Byt w vb b) :
    Calls Tryz.prog 84 #[.agg #[vb], .int .i64 h] w fun e w' => e = .returned (.bool (decide (isPt b h))) ∧ Below w.heap.size w w' := by
  have HV : Hid (∀ w', Below w.heap.size w w' → Byt w' vb b) := fun w' hb => hv.later hb rfl
  have HB : Hid (AllB b) := hB
  obtain ⟨a, cap, rfl, hc, _, _⟩ := hv
  have HBL : Hid (Below w.heap.size w (w.alloc (.cells #[.slice a b.length cap] 65))) := (Below.refl _ _).alloc (Nat.le_refl _) _
  have hlI : (b.length : Int) ≤ 200000 := by omega
  have k0 : (w.alloc (.cells #[.slice a b.length cap] 65)).cell? ⟨w.heap.size, 0, none⟩ = some (.slice a b.length cap) := by simp
  have HLt : Hid (w.heap.size < (w.alloc (.cells #[.slice a b.length cap] 65)).heap.size) := by unfold Hid; simp
  have HC0 : Hid (∀ w', Below (w.alloc (.cells #[.slice a b.length cap] 65)).heap.size (w.alloc (.cells #[.slice a b.length cap] 65)) w' → w'.cell? ⟨w.heap.size, 0, none⟩ = some (.slice a b.length cap)) := fun w' hb => (hb.cell HLt.out).trans k0
  have cN : Hid (∀ wx, Below (w.alloc (.cells #[.slice a b.length cap] 65)).heap.size (w.alloc (.cells #[.slice a b.length cap] 65)) wx → ∀ pI : Int, pI = ((h : Nat) : Int) → Calls Tryz.prog 82 #[.agg #[.slice a b.length cap], .int .i64 pI] wx fun e w' => e = .returned (.int .u64 ((vl b (h) 4 : Nat) : Int)) ∧ Below (w.alloc (.cells #[.slice a b.length cap] 65)).heap.size (w.alloc (.cells #[.slice a b.length cap] 65)) w') := fun wx hx pI hpI => ((word_c HB.out hl _ (h) pI hpI (by omega) wx (HV.out _ (HBL.out.trans (hx.mono HBL.out.size)))).mono fun _ _ h => ⟨h.1, hx.trans (h.2.mono hx.size)⟩)
  have cA : Hid (∀ wx, Below (w.alloc (.cells #[.slice a b.length cap] 65)).heap.size (w.alloc (.cells #[.slice a b.length cap] 65)) wx → ∀ pI : Int, pI = ((h + 40 : Nat) : Int) → Calls Tryz.prog 56 #[.agg #[.slice a b.length cap], .int .i64 pI] wx fun e w' => e = .returned (.int .u64 ((vl b (h + 40) 8 : Nat) : Int)) ∧ Below (w.alloc (.cells #[.slice a b.length cap] 65)).heap.size (w.alloc (.cells #[.slice a b.length cap] 65)) w') := fun wx hx pI hpI => ((double_c HB.out hl _ (h + 40) pI hpI (by omega) wx (HV.out _ (HBL.out.trans (hx.mono HBL.out.size)))).mono fun _ _ h => ⟨h.1, hx.trans (h.2.mono hx.size)⟩)
  have cB : Hid (∀ wx, Below (w.alloc (.cells #[.slice a b.length cap] 65)).heap.size (w.alloc (.cells #[.slice a b.length cap] 65)) wx → ∀ pI : Int, pI = ((h + 32 : Nat) : Int) → Calls Tryz.prog 56 #[.agg #[.slice a b.length cap], .int .i64 pI] wx fun e w' => e = .returned (.int .u64 ((vl b (h + 32) 8 : Nat) : Int)) ∧ Below (w.alloc (.cells #[.slice a b.length cap] 65)).heap.size (w.alloc (.cells #[.slice a b.length cap] 65)) w') := fun wx hx pI hpI => ((double_c HB.out hl _ (h + 32) pI hpI (by omega) wx (HV.out _ (HBL.out.trans (hx.mono HBL.out.size)))).mono fun _ _ h => ⟨h.1, hx.trans (h.2.mono hx.size)⟩)
  have hhI : (h : Int) + 56 ≤ b.length := by omega
  have hhJ : (h : Int) ≤ 200000 := by omega
  have lN := vl_lt8 hB h 4 (by omega)
  have lA := vl_lt8 hB (h + 40) 8 (by omega)
  have lB := vl_lt8 hB (h + 32) 8 (by omega)
  obtain ⟨d, hd⟩ : ∃ d, d = decide (isPt b h) := ⟨_, rfl⟩
  have HD : Hid (d = decide (vl b h 4 = 1 ∧ ¬ (vl b (h + 40) 8 = 0 ∧ vl b (h + 32) 8 = 0))) := hd
  rw [← hd]
  clear hd
  obtain ⟨N, hN⟩ : ∃ N, N = vl b h 4 := ⟨_, rfl⟩
  obtain ⟨A, hA⟩ : ∃ A, A = vl b (h + 40) 8 := ⟨_, rfl⟩
  obtain ⟨B, hBB⟩ : ∃ B, B = vl b (h + 32) 8 := ⟨_, rfl⟩
  have HNN : Hid (N = vl b h 4) := hN
  rw [← hN] at cN lN HD
  rw [← hA] at cA lA HD
  rw [← hBB] at cB lB HD
  clear hN hA hBB hB
  have HAB : Hid ((bits .or .u64 (A : Int) (B : Int) != 0) = decide (¬ (A = 0 ∧ B = 0))) := or_ne A B lA lB
  have lNI : (N : Int) < 18446744073709551616 := by omega
  by_cases hN1 : N = 1
  · have hN1I : ((N : Int) == 1) = true := by rw [hN1]; rfl
    have HE : Hid (d = decide (¬ (A = 0 ∧ B = 0))) := by unfold Hid; rw [HD.out]; simp [hN1]
    clear hN1 HD
    go_enter Tryz.func84, Tryz.ntmps84
    go_upto_region 1 with fail
    generalize (w.alloc (.cells #[.slice a b.length cap] 65)) = w1 at *
    have HW : Hid (Below w1.heap.size w1 w1) := Below.refl _ _
    go_region_held3 (fun w' => w'.cell? ⟨w.heap.size, 0, none⟩ = some (.slice a b.length cap)) (first | exact HC0.out _ HW.out | exact HC0.out _ (Below.drew HW.out)) (first
      | (go_at_call 82; refine (cN.out _ (by first | exact HW.out | exact Below.drew HW.out) _ (by first | omega | (rw [IntKind.wrap_i64]; omega))).mono ?_; rintro e w2 ⟨rfl, hb⟩; clear HW; have HW : Hid (Below w1.heap.size w1 w2) := hb; clear hb)
      | (go_at_call 56; refine (cA.out _ (by first | exact HW.out | exact Below.drew HW.out) _ (by first | omega | (rw [IntKind.wrap_i64]; omega))).mono ?_; rintro e w3 ⟨rfl, hb⟩; clear HW; have HW : Hid (Below w1.heap.size w1 w3) := hb; clear hb)
      | (go_at_call 56; refine (cB.out _ (by first | exact HW.out | exact Below.drew HW.out) _ (by first | omega | (rw [IntKind.wrap_i64]; omega))).mono ?_; rintro e w4 ⟨rfl, hb⟩; clear HW; have HW : Hid (Below w1.heap.size w1 w4) := hb; clear hb))
    all_goals go_wp2
    all_goals go_ret
    all_goals exact ⟨by rw [HE.out, ← HAB.out]; first | rfl | simp, HBL.out.trans (HW.out.mono HBL.out.size)⟩
  · have hN1I : ((N : Int) == 1) = false := by rw [beq_eq_false_iff_ne]; omega
    have hN1d : decide ((N : Int) = 1) = false := by rw [decide_eq_false_iff_not]; omega
    have hN1n : ¬ ((N : Int) = 1) := by omega
    have HE : Hid (d = false) := by unfold Hid; rw [HD.out]; simp [hN1]
    clear hN1 HD
    go_enter Tryz.func84, Tryz.ntmps84
    go_upto_region 1 with fail
    have cNx := fun (x : Later (w.alloc (.cells #[.slice a b.length cap] 65))) (pI : Int) (hpI : pI = ((h : Nat) : Int)) => word_c HB.out hl _ h pI hpI (by omega) x.1 (HV.out _ (HBL.out.trans (x.2.mono HBL.out.size)))
    rw [← HNN.out] at cNx
    generalize (w.alloc (.cells #[.slice a b.length cap] 65)) = w1 at *
    have HW : Hid (Below w1.heap.size w1 w1) := Below.refl _ _
    have hne := later_nonempty w1
    have hc1 : ∀ x : Later w1, x.1.cell? ⟨w.heap.size, 0, none⟩ = some (.slice a b.length cap) := fun x => HC0.out x.1 x.2
    have cN2 : Hid (∀ x : Later w1, ∀ pI : Int, pI = ((h : Nat) : Int) → Calls Tryz.prog 82 #[.agg #[.slice a b.length cap], .int .i64 pI] x.1 fun e w' => e = .returned (.int .u64 (N : Int)) ∧ Below x.1.heap.size x.1 w') := cNx
    refine wp_region_later (x0 := Later.start w1) (by kernel_rfl) (by kernel_rfl) ?_
    repeat (go_big_quiet_step ((first | (go_at_call 82; exact calls_later (cN2.out _ _ (by first | omega | (rw [IntKind.wrap_i64]; omega)))))))
    refine wpQuiet_nil ?_
    rintro _ ⟨yq, rfl⟩
    go_wp2
    go_ret
    exact ⟨by rw [HE.out]; first | rfl | simp, HBL.out.trans (yq.2.mono HBL.out.size)⟩
end Go.Proofs.YtheeogbmljjbdaaGreatDoor
