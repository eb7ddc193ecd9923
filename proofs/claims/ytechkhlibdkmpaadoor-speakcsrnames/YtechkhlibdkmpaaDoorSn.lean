/-
  CsrOf of the reference: its walk.
-/
import Derived.Test.YtechkhlibdkmpaaDoorSm
namespace Go.Proofs.YtechkhlibdkmpaaDoor
set_option linter.unusedVariables false
open Go.ChangeShapes Go.WideShapes Go.ChangeAt Go.RowKit Go.Deep Go.Shelf
set_option maxRecDepth 100000 in
set_option maxHeartbeats 8000000 in
theorem rcsrOf_c (s : ByteArray) (hsz : s.size ≤ 140737488355328) (w : World) (hN : Nr w) : Calls Tryd.prog 14 #[.string s] w fun e w' => ((∃ n : Nat, n < 4096 ∧ keyL n = some s.toList ∧ e = .returned (.tuple #[.int .i64 n, .bool true])) ∨ ((∀ n, n < 4096 → ¬ keyL n = some s.toList) ∧ numE s e)) ∧ Below w.heap.size w w' := by
  obtain ⟨L, hL⟩ : ∃ L, L = s.toList := ⟨_, rfl⟩
  have HL : Hid (L = s.toList) := hL
  rw [← hL]
  clear hL
  have HN : Hid (Nr w) := hN
  have HSZ : Hid (s.size ≤ 140737488355328) := hsz
  clear hN hsz
  go_enter Tryd.func14, Tryd.ntmps14
  go_wp2
  go_loopw [4, 5, 6, 7, 8, 9] (fun i _ _ _ _ _ wr => ∃ n : Nat, n ≤ 4096 ∧ i = .int .i64 n ∧ Hid (∀ m, m < n → ¬ keyL m = some L) ∧ Hid (Below w.heap.size w wr)) (fun i _ _ _ _ _ _ => 4096 - (intOf i).toNat)
  case atStart => exact ⟨0, by omega, rfl, (fun j hj => by omega), Below.refl _ _⟩
  case round =>
    obtain ⟨n, hn, rfl, hno, hb⟩ := hrel
    by_cases hlt : n < 4096
    · as_aux_lemma =>
      have hltI : (n : Int) < 4096 := by omega
      have HNr : Hid (Nr wr) := HN.out.next hb.out
      obtain ⟨l, k0, b, hct, hl, hk0, hbt, hbf⟩ := ctV_form n hlt
      have HBO : Hid (b = (ctR n).isSome) := by
        unfold Hid
        cases b
        · rw [hbf rfl]; rfl
        · obtain ⟨l', e1, _⟩ := hbt rfl; rw [e1]; rfl
      have HCT : Hid (∀ w : World, Calls Tryd.prog 22 #[.int .i64 n] w fun e w' => e = .returned (.tuple #[.string l, .int .i64 k0, .bool b]) ∧ w' = w) := fun w => hct ▸ counted_c n hlt w
      have HRC : Hid (∀ w : World, Nr w → Calls Tryd.prog 12 #[.int .i64 n] w fun e w' => e = .returned (.string (csrS n)) ∧ Below w.heap.size w w') := fun w h => rcsr_c n hlt w h
      obtain ⟨ok1, ok2⟩ := own_key n hlt
      have HOK1 : Hid (ownB n = true → keyL n = some (csrS n).toList) := ok1
      have HOK2 : Hid (ownB n = false → keyL n = none) := ok2
      have HNEXT : Hid (¬ keyL n = some L → ∀ m, m < n + 1 → ¬ keyL m = some L) := fun h m hm => by
        rcases Nat.lt_or_eq_of_le (Nat.le_of_lt_succ hm) with hm | rfl
        · exact hno.out m hm
        · exact h
      clear hct hl hk0 hbt hbf ok1 ok2 hno
      generalize csrS n = cs at HRC HOK1
      go_wp2_with (first | (go_at_call 22; refine (HCT.out _).mono ?_; rintro e w1 ⟨rfl, hw⟩; have hw2 := hw.symm; subst hw2))
      --@CUT1
      go_loopw [8, 9] (fun a i wx => ∃ (j : Nat) (o : Bool), j ≤ 24 ∧ i = .int .i64 j ∧ a = .bool o ∧ Hid (o = (b || (nrT.take j).any fun c => c.1 == n)) ∧ wx = wr) (fun _ i _ => 24 - (intOf i).toNat)
      case atStart => exact ⟨0, b, by omega, rfl, rfl, (by unfold Hid; simp), rfl⟩
      case round =>
        obtain ⟨j, o, hj, rfl, rfl, ho, hwr⟩ := hrel
        subst hwr
        by_cases hjl : j < 24
        · have hjI : (j : Int) < 24 := by omega
          have hj26 : (j : Int) < 26 := by omega
          obtain ⟨h0, _⟩ := HNr.out j hjl
          have HTJ : Hid ((nrT.take (j + 1)).any (fun c => c.1 == n) = ((nrT.take j).any (fun c => c.1 == n) || ((nrT.getD j (0, [])).1 == n))) := by
            unfold Hid
            have hjn : j < nrT.length := hjl
            rw [List.take_add_one, List.any_append, List.getD_eq_getElem?_getD, List.getElem?_eq_getElem hjn]
            simp
          generalize (nrT.getD j (0, [])).1 = F at h0 HTJ
          cases o
          · by_cases hF : F = n
            · have hq : ((F : Int) == (n : Int)) = true := by rw [beq_iff_eq]; omega
              have HO2 : Hid (true = (b || (nrT.take (j + 1)).any fun c => c.1 == n)) := by unfold Hid; rw [HTJ.out, hF]; simp
              clear hF ho
              go_wp2
              go_roundw
              · exact ⟨j + 1, true, by omega, by simp, rfl, HO2.out, by trivial⟩
              · simp only [intOf]; omega
            · have hq : ((F : Int) == (n : Int)) = false := by rw [beq_eq_false_iff_ne]; omega
              have HO2 : Hid (false = (b || (nrT.take (j + 1)).any fun c => c.1 == n)) := by
                unfold Hid
                have h2 : (F == n) = false := by rw [beq_eq_false_iff_ne]; exact hF
                rw [HTJ.out, h2, Bool.or_false]
                exact ho.out
              clear hF ho
              go_wp2
              go_roundw
              · exact ⟨j + 1, false, by omega, by simp, rfl, HO2.out, by trivial⟩
              · simp only [intOf]; omega
          · have HO2 : Hid (true = (b || (nrT.take (j + 1)).any fun c => c.1 == n)) := by
              unfold Hid
              rw [HTJ.out, ← Bool.or_assoc, ← ho.out]
              rfl
            clear ho
            go_wp2
            go_roundw
            · exact ⟨j + 1, true, by omega, by simp, rfl, HO2.out, by trivial⟩
            · simp only [intOf]; omega
        · obtain rfl : j = 24 := by omega
          rw [show ((24 : Nat) : Int) = (24 : Int) from rfl]
          have HOW : Hid (o = ownB n) := by
            unfold Hid ownB
            rw [ho.out, HBO.out]
            rfl
          clear ho
          --@CUT2
          cases o
          · have HNK : Hid (¬ keyL n = some L) := by unfold Hid; rw [HOK2.out HOW.out.symm]; simp
            go_wp2
            go_roundw
            · exact ⟨n + 1, by omega, by simp, HNEXT.out HNK.out, hb.out⟩
            · simp only [intOf]; omega
          · have HKE := HOK1.out HOW.out.symm
            have HKE2 : Hid (keyL n = some cs.toList) := HKE
            clear HKE
            by_cases hq : cs.toList = L
            · have hcmp : (cs.toList == s.toList) = true := by rw [hq, HL.out, beq_self_eq_true]
              have HF : Hid (keyL n = some L) := by rw [← hq]; exact HKE2.out
              clear hq
              go_wp2_with (first | (go_at_call 12; refine (HRC.out _ HNr.out).mono ?_; rintro e w5 ⟨rfl, hb5⟩; have HB5 : Hid (Below w.heap.size w w5) := hb.out.trans (hb5.mono hb.out.size); clear hb5))
              go_ret2
              exact ⟨.inl ⟨n, hlt, HF.out, rfl⟩, HB5.out⟩
            · have hcmp : (cs.toList == s.toList) = false := by rw [← HL.out, beq_eq_false_iff_ne]; exact hq
              have HNK : Hid (¬ keyL n = some L) := fun h => hq (Option.some.inj (HKE2.out.symm.trans h))
              clear hq
              go_wp2_with (first | (go_at_call 12; refine (HRC.out _ HNr.out).mono ?_; rintro e w5 ⟨rfl, hb5⟩; have HB5 : Hid (Below w.heap.size w w5) := hb.out.trans (hb5.mono hb.out.size); clear hb5))
              go_roundw
              · exact ⟨n + 1, by omega, by simp, HNEXT.out HNK.out, HB5.out⟩
              · simp only [intOf]; omega
    · obtain rfl : n = 4096 := by omega
      rw [show ((4096 : Nat) : Int) = (4096 : Int) from rfl]
      --@CUT3
      by_cases hm : 0 < s.size ∧ (s.get! 0).toNat = 45
      · have HNM : Hid (∀ w : World, Calls Tryd.prog 25 #[.string s] w fun e w' => NumAns e ∧ Below w.heap.size w w') := fun w => number_m s HSZ.out hm.1 hm.2 w
        have HCM : Hid (countV s.toList = .tuple #[.int .u64 0, .bool false]) := count_minus s hm.1 hm.2
        have i0 : ∀ w, (Instr.index 9 (.string s) (.int .i64 0)).run Tryd.prog w = .ok (.int .u8 ((s.get! 0).toNat : Int)) w := fun w => sIdx s 0 hm.1 .i64 w
        have i1 : (((s.get! 0).toNat : Int) == 45) = true := by rw [beq_iff_eq]; omega
        have hsI : (0 : Int) < s.size := by omega
        generalize ((s.get! 0).toNat : Int) = c0 at i0 i1
        clear hm
        have HKN : Hid (∀ n, n < 4096 → ¬ keyL n = some L) := hno.out
        clear hno
        go_wp2_with fail
        refine (HNM.out _).mono ?_
        rintro e w5 ⟨⟨z, bb, rfl⟩, hb5⟩
        have HB5 : Hid (Below w.heap.size w w5) := hb.out.trans (hb5.mono hb.out.size)
        clear hb5
        cases bb
        · go_wp2
          go_ret2
          exact ⟨.inr ⟨HKN.out, 0, false, HCM.out, .inr ⟨by simp, rfl⟩⟩, HB5.out⟩
        · go_wp2
          go_ret2
          exact ⟨.inr ⟨HKN.out, 0, false, HCM.out, .inr ⟨by simp, rfl⟩⟩, HB5.out⟩
      · obtain ⟨v, bb, hcv⟩ : ∃ (v : Nat) (bb : Bool), countV s.toList = .tuple #[.int .u64 v, .bool bb] := by
          unfold countV
          split
          · exact whV_form 16 _
          · exact whV_form 10 _
        have HNP : Hid (∀ w : World, Calls Tryd.prog 25 #[.string s] w fun e w' => e = .returned (.tuple #[.int .u64 v, .bool bb]) ∧ Below w.heap.size w w') := fun w => hcv ▸ number_p s HSZ.out hm w
        have HKN : Hid (∀ n, n < 4096 → ¬ keyL n = some L) := hno.out
        have HCV : Hid (countV s.toList = .tuple #[.int .u64 v, .bool bb]) := hcv
        clear hno
        --@CUT4
        cases bb
        · clear hcv hm
          go_wp2_with (first | (go_at_call 25; refine (HNP.out _).mono ?_; rintro e w5 ⟨rfl, hb5⟩; have HB5 : Hid (Below w.heap.size w w5) := hb.out.trans (hb5.mono hb.out.size); clear hb5))
          go_ret2
          exact ⟨.inr ⟨HKN.out, v, false, HCV.out, .inr ⟨by simp, rfl⟩⟩, HB5.out⟩
        · have hs0 : 0 < s.size := by
            rcases Nat.eq_zero_or_pos s.size with h | h
            · exfalso
              have hq : s.toList = [] := List.eq_nil_of_length_eq_zero (by rw [toList_len]; exact h)
              rw [hq] at hcv
              have e : countV ([] : List UInt8) = .tuple #[.int .u64 0, .bool false] := rfl
              rw [e] at hcv
              simp at hcv
            · exact h
          have i0 : ∀ w, (Instr.index 9 (.string s) (.int .i64 0)).run Tryd.prog w = .ok (.int .u8 ((s.get! 0).toNat : Int)) w := fun w => sIdx s 0 hs0 .i64 w
          have i1 : (((s.get! 0).toNat : Int) == 45) = false := by rw [beq_eq_false_iff_ne]; intro h; exact hm ⟨hs0, by omega⟩
          have hsI : (0 : Int) < s.size := by omega
          generalize ((s.get! 0).toNat : Int) = c0 at i0 i1
          clear hcv hm hs0
          by_cases hv : v < 4096
          · have hvI : ¬ ((4095 : Int) < v) := by omega
            have hvb : (v : Int) ≤ 4095 := by omega
            go_wp2_with (first | (go_at_call 25; refine (HNP.out _).mono ?_; rintro e w5 ⟨rfl, hb5⟩; have HB5 : Hid (Below w.heap.size w w5) := hb.out.trans (hb5.mono hb.out.size); clear hb5))
            go_ret2
            exact ⟨.inr ⟨HKN.out, v, true, HCV.out, .inl ⟨rfl, hv, rfl⟩⟩, HB5.out⟩
          · have hvI : (4095 : Int) < v := by omega
            go_wp2_with (first | (go_at_call 25; refine (HNP.out _).mono ?_; rintro e w5 ⟨rfl, hb5⟩; have HB5 : Hid (Below w.heap.size w w5) := hb.out.trans (hb5.mono hb.out.size); clear hb5))
            go_ret2
            exact ⟨.inr ⟨HKN.out, v, true, HCV.out, .inr ⟨fun h => hv h.2, rfl⟩⟩, HB5.out⟩
end Go.Proofs.YtechkhlibdkmpaaDoor
