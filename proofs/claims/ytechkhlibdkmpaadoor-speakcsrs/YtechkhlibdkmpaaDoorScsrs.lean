/-
  SpeakCsrs.
-/
import Derived.Test.YtechkhlibdkmpaaDoorSh
import Derived.Lib.TrailingZeros
import Derived.Test.YtechkhlibdkmpaaDoorScd
import Derived.ShutString
import Derived.ChangeOld
import Derived.ChangeMaps5
namespace Go.Proofs.YtechkhlibdkmpaaDoor
set_option linter.unusedVariables false
open Go.ChangeShapes Go.WideShapes Go.ChangeAt Go.RowKit Go.Deep
theorem names_eq : (Rows.laid_anvil_anvilref07_csrNames : DataW Unit) = strData (nrT.map (fun c : Nat × List UInt8 => c.2) ++ [[], []]) := by kernel_rfl
theorem numbers_eq : (Rows.laid_anvil_anvilref07_csrNumbers : DataW Unit) = Lib.tabData .i64 (nrT.map (fun c : Nat × List UInt8 => (c.1 : Int)) ++ [-1, -1]) := by kernel_rfl
theorem bruijn_eq : (Rows.laid_math_bits_deBruijn64tab : DataW Unit) = Lib.tabData .u8 (Lib.deBruijn64tab.map Int.ofNat) := by kernel_rfl
theorem names_at : ∀ k : Fin 24, (nrT.map (fun c : Nat × List UInt8 => c.2) ++ [[], []]).getD k.val [] = (nrT.getD k.val (0, [])).2 := by decide
theorem numbers_at : ∀ k : Fin 24, (nrT.map (fun c : Nat × List UInt8 => (c.1 : Int)) ++ [-1, -1]).getD k.val 0 = ((nrT.getD k.val (0, [])).1 : Int) := by decide
theorem tz_of_reads {W : World} (h : Go.Lib.VarReads Tryd.prog W "math/bits.deBruijn64tab" (Rows.laid_math_bits_deBruijn64tab : DataW Unit)) : Tz W := by
  rw [bruijn_eq] at h
  exact ints_of_reads (k := .u8) (by kernel_rfl) (by kernel_rfl) Tryd.underlying69 Tryd.underlying5 (by kernel_rfl) (by kernel_rfl) h 15 (by decide)
theorem nr_of_reads {W : World} (h : Go.Lib.VarReads Tryd.prog W "anvil/anvilref07.csrNames" (Rows.laid_anvil_anvilref07_csrNames : DataW Unit)) (h' : Go.Lib.VarReads Tryd.prog W "anvil/anvilref07.csrNumbers" (Rows.laid_anvil_anvilref07_csrNumbers : DataW Unit)) : Nr W := by
  rw [names_eq] at h
  rw [numbers_eq] at h'
  intro k hk
  have e1 := strs_of_reads (g := 2) (by kernel_rfl) (by kernel_rfl) Tryd.underlying41 Tryd.underlying9 (by kernel_rfl) (by kernel_rfl) h k (by show k < 26; omega)
  have e2 := ints_of_reads (g := 1) (k := .i64) (by kernel_rfl) (by kernel_rfl) Tryd.underlying40 Tryd.underlying3 (by kernel_rfl) (by kernel_rfl) h' k (by show k < 26; omega)
  rw [names_at ⟨k, hk⟩] at e1
  rw [numbers_at ⟨k, hk⟩] at e2
  exact ⟨e2, e1⟩
theorem csr_out (n : Int) (h : n < 0 ∨ 4096 ≤ n) (w : World) : Calls Tryd.prog 11 #[.int .i64 n] w fun e w' => e = .returned (.string ⟨#[]⟩) ∧ Below w.heap.size w w' := by
  rcases h with h | h
  · go_enter Tryd.func11, Tryd.ntmps11
    go_wp2
    go_ret
    exact ⟨rfl, Below.refl _ _⟩
  · have h1 : ¬ (n < 0) := by omega
    have h2 : (4096 : Int) ≤ n := by omega
    go_enter Tryd.func11, Tryd.ntmps11
    go_wp2
    go_ret
    exact ⟨rfl, Below.refl _ _⟩
theorem rcsr_out (n : Int) (h : n < 0 ∨ 4096 ≤ n) (w : World) : Calls Tryd.prog 12 #[.int .i64 n] w fun e w' => e = .returned (.string ⟨#[]⟩) ∧ Below w.heap.size w w' := by
  rcases h with h | h
  · go_enter Tryd.func12, Tryd.ntmps12
    go_wp2
    go_ret
    exact ⟨rfl, Below.refl _ _⟩
  · have h1 : ¬ (n < 0) := by omega
    have h2 : (4095 : Int) < n := by omega
    go_enter Tryd.func12, Tryd.ntmps12
    go_wp2
    go_ret
    exact ⟨rfl, Below.refl _ _⟩
set_option maxRecDepth 100000 in
set_option maxHeartbeats 2000000 in
theorem csrs_walk (n : Int) (hn : (Lit.int .i64 n).wf = true) (w : World) (hT : Tz w) (hN : Nr w) :
    Calls Tryd.prog 5 #[.int .i64 n] w fun e w' => e = .returned (.bool true) ∧ Below w.heap.size w w' := by
  have hex : ∃ s : ByteArray, (∀ w1 : World, Tz w1 → Calls Tryd.prog 11 #[.int .i64 n] w1 fun e w' => e = .returned (.string s) ∧ Below w1.heap.size w1 w') ∧ (∀ w1 : World, Nr w1 → Calls Tryd.prog 12 #[.int .i64 n] w1 fun e w' => e = .returned (.string s) ∧ Below w1.heap.size w1 w') := by
    by_cases h : 0 ≤ n ∧ n < 4096
    · obtain ⟨m, rfl⟩ := Int.eq_ofNat_of_zero_le h.1
      exact ⟨csrS m, fun w1 h1 => csr_c m (by omega) w1 h1, fun w1 h1 => rcsr_c m (by omega) w1 h1⟩
    · exact ⟨⟨#[]⟩, fun w1 _ => csr_out n (by omega) w1, fun w1 _ => rcsr_out n (by omega) w1⟩
  obtain ⟨s, h1, h2⟩ := hex
  have HA : Hid (∀ w1 : World, Tz w1 → Calls Tryd.prog 11 #[.int .i64 n] w1 fun e w' => e = .returned (.string s) ∧ Below w1.heap.size w1 w') := h1
  have HB : Hid (∀ w1 : World, Nr w1 → Calls Tryd.prog 12 #[.int .i64 n] w1 fun e w' => e = .returned (.string s) ∧ Below w1.heap.size w1 w') := h2
  have HT : Hid (Tz w) := hT
  have HN : Hid (Nr w) := hN
  clear hn hT hN h1 h2
  go_enter Tryd.func5, Tryd.ntmps5
  go_wp2_with (first | (go_at_call 11; refine (HA.out _ HT.out).mono ?_; rintro e w1 ⟨rfl, hb1⟩; have HB1 : Hid (Below w.heap.size w w1) := hb1; clear hb1) | (go_at_call 12; refine (HB.out _ (HN.out.next HB1.out)).mono ?_; rintro e w2 ⟨rfl, hb2⟩; have HB2 : Hid (Below w.heap.size w w2) := HB1.out.trans (hb2.mono HB1.out.size); clear hb2))
  go_ret
  exact ⟨by simp, HB2.out⟩
end Go.Proofs.YtechkhlibdkmpaaDoor
namespace Go.Proofs.YtechkhlibdkmpaaDoor.speakCsrs
set_option linter.unusedVariables false
open Go.ChangeShapes Go.WideShapes Go.ChangeAt Go.RowKit Go.Deep Go.Lib Go.Shelf
theorem own : ownKnob Tryd.prog.godebug = none := by kernel_rfl
theorem laidOut : laidOutB Tryd.prog = true := by kernel_rfl
set_option maxRecDepth 100000 in
set_option maxHeartbeats 2000000 in
theorem lifted (os : Os) (started : os.Started) (H : Type) (enc : TypeId × Value → H) :
    ReturnsInHanded {} Tryd.checked os 5 .any (fun w args => (Rows.speakCsrsSpec.pre enc Tryd.prog Tryd.f5 [] false w args ∧ laidMetH Tryd.prog Rows.speakCsrsRow.laid w) ∧ sizedMet enc Tryd.prog Tryd.f5 (OpenSpec.ofChange Rows.speakCsrsSpec) false w args)
      (Rows.speakCsrsSpec.post enc Tryd.prog Tryd.f5 false true false false) := by
  refine returnsInHanded_of_change_and (C := Tryd.checked) (X := fun w _ => laidMetH Tryd.prog Rows.speakCsrsRow.laid w) (fun _ _ _ hh h => h.of_heap hh) own started (by kernel_rfl) Tryd.func5
    (ChangeSpec.witness_shaped (enc := enc) (C := Tryd.checked) (os := os) (X := fun w _ => laidMetH Tryd.prog Rows.speakCsrsRow.laid w) false (World.laidAll Tryd.prog os Rows.speakCsrsRow.laid) #[.int .i64 0] 8 (World.laidAll_os _ _ _)
      (World.shaped_of_ZipB (by kernel_rfl) (by kernel_rfl)) (by kernel_rfl) (by kernel_rfl) (by kernel_rfl)
      (by rw [MakeChecks.laidMetH_plain _ _ _ (by kernel_rfl)]; exact laidMet_laidAll _ (by kernel_rfl) (by kernel_rfl))) ?_
  intro W base args ds gs before hval0 hW _ hz0 hL _
  have hval : ∀ (j : Nat) t v, Tryd.f5.params[j]? = some t → args[j]? = some v → Value.okWide Tryd.prog W .any base t v := hval0
  have hW' := hW
  obtain ⟨p, q, hA0, hV, rfl, _, _⟩ := hW
  have hA : DataW.TrodAll enc Tryd.prog W 0 (fun _ => true) true Tryd.f5.params.toList args.toList ds p := hA0
  have hz1 : (DataW.weightsEach Tryd.prog (Tryd.f5.params.toList ++ Rows.speakCsrsSpec.plain.varTypes Tryd.prog) (ds ++ gs)).all (· ≤ reachBytes) = true := hz0
  rw [Tryd.params5] at hA hval hz1
  obtain ⟨v0, d0, rfl, rfl, h0⟩ := trodAll_one hA
  obtain ⟨rfl, rfl⟩ := trodVars_none hV
  have k0 := h0
  have lt0 : ∀ x ∈ p, x.block < W.heap.size := by obtain ⟨m, hm⟩ := k0; exact DataW.trod_lt m _ _ _ hm
  obtain ⟨n, rfl, rfl, rfl, w0⟩ := open_int Tryd.underlying3 (hval 0 3 v0 rfl rfl) h0
  have hn : (Lit.int .i64 n).wf = true := w0
  rw [MakeChecks.laidMetH_plain _ _ _ (by kernel_rfl)] at hL
  have hT : Tz W := tz_of_reads (Lib.laidMet.reads hL (.tail _ (.head _)))
  have hN : Nr W := nr_of_reads (Lib.laidMet.reads hL (.tail _ (.tail _ (.tail _ (.head _))))) (Lib.laidMet.reads hL (.tail _ (.tail _ (.tail _ (.tail _ (.head _))))))
  clear hA0 hval0 hz0
  refine (csrs_walk n hn W hT hN).mono fun e W' ⟨he, bel⟩ => ?_
  subst he
  exact ⟨_, rfl, _, _, _, [], _, [], hW', trodAll_mk1 (shut_bool Tryd.underlying4 _), trodAll_mk1 (Below.trod laidOut (by kernel_rfl) (of_decide_eq_true (by kernel_rfl)) k0 bel lt0), rfl, bel.frame _, fun h => by cases h⟩
theorem over : Rows.speakCsrsRow.holds Tryd.pinned (OpenSpec.ofChange Rows.speakCsrsSpec) :=
  OpenClaim.holds_of_wide 5 Tryd.f5 rfl rfl rfl rfl rfl rfl rfl ⟨rfl, rfl, rfl, rfl, rfl⟩ rfl rfl rfl rfl rfl (by kernel_rfl) Tryd.func5 (by kernel_rfl)
    (of_decide_eq_true (by kernel_rfl)) (by unfold Func.isWrapper; first | (rw [if_pos (by decide +kernel)]; kernel_rfl) | (rw [if_neg (by decide +kernel)]; exact ⟨rfl, rfl⟩))
    (fun os started H enc _ => lifted os started H enc)
theorem card : Rows.SpeakCsrsCardSaid :=
  Claim7.holds_tied_plain_at .later [] [.data, .data, .data, .data, .data] true (true, "16dd14d2d6dfec135885ae9747ee40450c12cc3ec14cd63f9158af498eb68971") false over (fun _ h => by cases h) (by kernel_rfl) (fun _ h => by cases h) speakCsrs_row_tie rfl ⟨rfl, rfl⟩ (by kernel_rfl) rfl
    (fun f fn hf hfn => by
      obtain rfl : f = 5 := Option.some.inj ((show Tryd.prog.funcNamed "anvil/anvillaw07.SpeakCsrs" = some 5 by kernel_rfl).symm.trans hf) |>.symm
      obtain rfl : fn = Tryd.f5 := (Option.some.inj (Tryd.func5.symm.trans hfn)).symm
      exact ⟨by kernel_rfl, fun j t ht => by
        rw [Tryd.params5] at ht
        have hm : t ∈ [3] := by simpa using Array.mem_of_getElem? ht
        have hall : ([3].all fun u => !Tryd.prog.wantsStandIn u) = true := by kernel_rfl
        exact (show Tryd.prog.wantsStandIn t = false by simpa using List.all_eq_true.1 hall t hm)⟩)
    (by kernel_rfl)
end Go.Proofs.YtechkhlibdkmpaaDoor.speakCsrs
namespace Go.Proofs.YtechkhlibdkmpaaDoor
theorem speakCsrs_holds : Rows.SpeakCsrsCardSaid := speakCsrs.card
end Go.Proofs.YtechkhlibdkmpaaDoor
