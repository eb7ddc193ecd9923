/-
  SpeakCsrNames.
-/
import Derived.Test.YtechkhlibdkmpaaDoorSn
import Derived.Test.YtechkhlibdkmpaaDoorScd
import Derived.ShutString
import Derived.ChangeOld
import Derived.ChangeMaps5
namespace Go.Proofs.YtechkhlibdkmpaaDoor
set_option linter.unusedVariables false
open Go.ChangeShapes Go.WideShapes Go.ChangeAt Go.RowKit Go.Deep
theorem names_eq : (Rows.laid_anvil_anvilref07_csrNames : DataW Unit) = strData (nrT.map (fun c : Nat × List UInt8 => c.2) ++ [[], []]) := by kernel_rfl
theorem numbers_eq : (Rows.laid_anvil_anvilref07_csrNumbers : DataW Unit) = Lib.tabData .i64 (nrT.map (fun c : Nat × List UInt8 => (c.1 : Int)) ++ [-1, -1]) := by kernel_rfl
theorem names_at : ∀ k : Fin 24, (nrT.map (fun c : Nat × List UInt8 => c.2) ++ [[], []]).getD k.val [] = (nrT.getD k.val (0, [])).2 := by decide
theorem numbers_at : ∀ k : Fin 24, (nrT.map (fun c : Nat × List UInt8 => (c.1 : Int)) ++ [-1, -1]).getD k.val 0 = ((nrT.getD k.val (0, [])).1 : Int) := by decide
theorem nr_of_reads {W : World} (h : Go.Lib.VarReads Tryd.prog W "anvil/anvilref07.csrNames" (Rows.laid_anvil_anvilref07_csrNames : DataW Unit)) (h' : Go.Lib.VarReads Tryd.prog W "anvil/anvilref07.csrNumbers" (Rows.laid_anvil_anvilref07_csrNumbers : DataW Unit)) : Nr W := by
  rw [names_eq] at h
  rw [numbers_eq] at h'
  intro k hk
  have e1 := strs_of_reads (g := 2) (by kernel_rfl) (by kernel_rfl) Tryd.underlying41 Tryd.underlying9 (by kernel_rfl) (by kernel_rfl) h k (by show k < 26; omega)
  have e2 := ints_of_reads (g := 1) (k := .i64) (by kernel_rfl) (by kernel_rfl) Tryd.underlying40 Tryd.underlying3 (by kernel_rfl) (by kernel_rfl) h' k (by show k < 26; omega)
  rw [names_at ⟨k, hk⟩] at e1
  rw [numbers_at ⟨k, hk⟩] at e2
  exact ⟨e2, e1⟩
theorem countV_form (l : List UInt8) : ∃ (v : Nat) (b : Bool), countV l = .tuple #[.int .u64 v, .bool b] := by
  unfold countV
  split
  · exact whV_form 16 _
  · exact whV_form 10 _
theorem tup_inj {v v' : Nat} {b b' : Bool} (h : (Value.tuple #[.int .u64 v, .bool b]) = .tuple #[.int .u64 v', .bool b']) : v = v' ∧ b = b' := by
  simp at h
  exact ⟨by omega, h.2⟩
theorem both_of (s : ByteArray) (hs : s.size ≤ 140737488355328) : ∃ (m : Int) (b : Bool), (∀ w : World, Calls Tryd.prog 13 #[.string s] w fun e w' => e = .returned (.tuple #[.int .i64 m, .bool b]) ∧ Below w.heap.size w w') ∧ (∀ w : World, Nr w → Calls Tryd.prog 14 #[.string s] w fun e w' => e = .returned (.tuple #[.int .i64 m, .bool b]) ∧ Below w.heap.size w w') := by
  by_cases hex : ∃ n, n < 4096 ∧ keyL n = some s.toList
  · obtain ⟨n, hn, hk⟩ := hex
    refine ⟨n, true, fun w => ?_, fun w hN => ?_⟩
    · refine (csrOf_names s w 0 false (key_count hn hk) (.inl rfl)).mono fun e w' ⟨hf, hb⟩ => ⟨?_, hb⟩
      rcases hf with ⟨n', h1, h2, h3⟩ | ⟨h1, _⟩
      · rw [h3, key_uniq h1 hn h2 hk]
      · exact absurd hk (h1 n)
    · refine (rcsrOf_c s hs w hN).mono fun e w' ⟨hf, hb⟩ => ⟨?_, hb⟩
      rcases hf with ⟨n', h1, h2, h3⟩ | ⟨h1, _⟩
      · rw [h3, key_uniq h1 hn h2 hk]
      · exact absurd hk (h1 n hn)
  · obtain ⟨v, b, hc⟩ := countV_form s.toList
    by_cases hv : b = true ∧ v < 4096
    · obtain ⟨rfl, hv2⟩ := hv
      refine ⟨v, true, fun w => csrOf_num s w v hv2 hc, fun w hN => ?_⟩
      refine (rcsrOf_c s hs w hN).mono fun e w' ⟨hf, hb⟩ => ⟨?_, hb⟩
      rcases hf with ⟨n', h1, h2, h3⟩ | ⟨_, v', b', hc', hr⟩
      · exact absurd ⟨n', h1, h2⟩ hex
      · obtain ⟨rfl, rfl⟩ := tup_inj (hc.symm.trans hc')
        rcases hr with ⟨_, _, he⟩ | ⟨h1, _⟩
        · exact he
        · exact absurd ⟨rfl, hv2⟩ h1
    · refine ⟨0, false, fun w => ?_, fun w hN => ?_⟩
      · refine (csrOf_names s w v b hc (by cases b; exact .inl rfl; exact .inr ⟨rfl, fun h => hv ⟨rfl, h⟩⟩)).mono fun e w' ⟨hf, hb⟩ => ⟨?_, hb⟩
        rcases hf with ⟨n', h1, h2, h3⟩ | ⟨_, h3⟩
        · exact absurd ⟨n', h1, h2⟩ hex
        · exact h3
      · refine (rcsrOf_c s hs w hN).mono fun e w' ⟨hf, hb⟩ => ⟨?_, hb⟩
        rcases hf with ⟨n', h1, h2, h3⟩ | ⟨_, v', b', hc', hr⟩
        · exact absurd ⟨n', h1, h2⟩ hex
        · obtain ⟨rfl, rfl⟩ := tup_inj (hc.symm.trans hc')
          rcases hr with ⟨h1, h2, _⟩ | ⟨_, he⟩
          · exact absurd ⟨h1, h2⟩ hv
          · exact he
set_option maxRecDepth 100000 in
set_option maxHeartbeats 2000000 in
theorem csrNames_walk (n : ByteArray) (hn : n.size ≤ 140737488355328) (w : World) (hN : Nr w) :
    Calls Tryd.prog 6 #[.string n] w fun e w' => e = .returned (.bool true) ∧ Below w.heap.size w w' := by
  obtain ⟨m, b, h1, h2⟩ := both_of n hn
  have HA : Hid (∀ (w1 : World), Calls Tryd.prog 13 #[.string n] w1 fun e w' => e = .returned (.tuple #[.int .i64 m, .bool b]) ∧ Below w1.heap.size w1 w') := h1
  have HB : Hid (∀ (w1 : World), Nr w1 → Calls Tryd.prog 14 #[.string n] w1 fun e w' => e = .returned (.tuple #[.int .i64 m, .bool b]) ∧ Below w1.heap.size w1 w') := h2
  have HN : Hid (Nr w) := hN
  clear hn hN h1 h2
  go_enter Tryd.func6, Tryd.ntmps6
  go_wp2_with (first | (go_at_call 13; refine (HA.out _).mono ?_; rintro e w1 ⟨rfl, hb1⟩; have HB1 : Hid (Below w.heap.size w w1) := hb1; clear hb1) | (go_at_call 14; refine (HB.out _ (HN.out.next HB1.out)).mono ?_; rintro e w2 ⟨rfl, hb2⟩; have HB2 : Hid (Below w.heap.size w w2) := HB1.out.trans (hb2.mono HB1.out.size); clear hb2))
  go_ret
  exact ⟨by simp, HB2.out⟩
end Go.Proofs.YtechkhlibdkmpaaDoor
namespace Go.Proofs.YtechkhlibdkmpaaDoor.speakCsrNames
set_option linter.unusedVariables false
open Go.ChangeShapes Go.WideShapes Go.ChangeAt Go.RowKit Go.Deep Go.Lib Go.Shelf
theorem own : ownKnob Tryd.prog.godebug = none := by kernel_rfl
theorem laidOut : laidOutB Tryd.prog = true := by kernel_rfl
set_option maxRecDepth 100000 in
set_option maxHeartbeats 2000000 in
theorem lifted (os : Os) (started : os.Started) (H : Type) (enc : TypeId × Value → H) :
    ReturnsInHanded {} Tryd.checked os 6 .any (fun w args => (Rows.speakCsrNamesSpec.pre enc Tryd.prog Tryd.f6 [] false w args ∧ laidMetH Tryd.prog Rows.speakCsrNamesRow.laid w) ∧ sizedMet enc Tryd.prog Tryd.f6 (OpenSpec.ofChange Rows.speakCsrNamesSpec) false w args)
      (Rows.speakCsrNamesSpec.post enc Tryd.prog Tryd.f6 false true false false) := by
  refine returnsInHanded_of_change_and (C := Tryd.checked) (X := fun w _ => laidMetH Tryd.prog Rows.speakCsrNamesRow.laid w) (fun _ _ _ hh h => h.of_heap hh) own started (by kernel_rfl) Tryd.func6
    (ChangeSpec.witness_shaped (enc := enc) (C := Tryd.checked) (os := os) (X := fun w _ => laidMetH Tryd.prog Rows.speakCsrNamesRow.laid w) false (World.laidAll Tryd.prog os Rows.speakCsrNamesRow.laid) #[.string ⟨#[]⟩] 8 (World.laidAll_os _ _ _)
      (World.shaped_of_ZipB (by kernel_rfl) (by kernel_rfl)) (by kernel_rfl) (by kernel_rfl) (by kernel_rfl)
      (by rw [MakeChecks.laidMetH_plain _ _ _ (by kernel_rfl)]; exact laidMet_laidAll _ (by kernel_rfl) (by kernel_rfl))) ?_
  intro W base args ds gs before hval0 hW _ hz0 hL _
  have hval : ∀ (j : Nat) t v, Tryd.f6.params[j]? = some t → args[j]? = some v → Value.okWide Tryd.prog W .any base t v := hval0
  have hW' := hW
  obtain ⟨p, q, hA0, hV, rfl, _, _⟩ := hW
  have hA : DataW.TrodAll enc Tryd.prog W 0 (fun _ => true) true Tryd.f6.params.toList args.toList ds p := hA0
  have hz1 : (DataW.weightsEach Tryd.prog (Tryd.f6.params.toList ++ Rows.speakCsrNamesSpec.plain.varTypes Tryd.prog) (ds ++ gs)).all (· ≤ reachBytes) = true := hz0
  rw [Tryd.params6] at hA hval hz1
  obtain ⟨v0, d0, rfl, rfl, h0⟩ := trodAll_one hA
  obtain ⟨rfl, rfl⟩ := trodVars_none hV
  have k0 := h0
  have lt0 : ∀ x ∈ p, x.block < W.heap.size := by obtain ⟨m, hm⟩ := k0; exact DataW.trod_lt m _ _ _ hm
  obtain ⟨n, rfl, rfl, rfl, w0⟩ := Go.ChangeMaps.open_string Tryd.underlying9 (hval 0 9 v0 rfl rfl) h0
  have hn : n.size ≤ maxLen := w0
  rw [MakeChecks.laidMetH_plain _ _ _ (by kernel_rfl)] at hL
  have hn : n.size ≤ 140737488355328 := by
    have hq := List.all_eq_true.1 hz1 n.data.toList.length (DataW.weights_mem_each (j := 0) (t := 9) (d := .lit (.string n.data.toList)) rfl rfl _ (by simp [DataW.weights]))
    have e : n.size = n.data.toList.length := Lib.size_eq n
    have hq2 : n.data.toList.length ≤ reachBytes := of_decide_eq_true hq
    unfold reachBytes at hq2
    omega
  have hN : Nr W := nr_of_reads (Lib.laidMet.reads hL (.tail _ (.tail _ (.tail _ (.head _))))) (Lib.laidMet.reads hL (.tail _ (.tail _ (.tail _ (.tail _ (.head _))))))
  clear hA0 hval0 hz0
  refine (csrNames_walk n hn W hN).mono fun e W' ⟨he, bel⟩ => ?_
  subst he
  exact ⟨_, rfl, _, _, _, [], _, [], hW', trodAll_mk1 (shut_bool Tryd.underlying4 _), trodAll_mk1 (Below.trod laidOut (by kernel_rfl) (of_decide_eq_true (by kernel_rfl)) k0 bel lt0), rfl, bel.frame _, fun h => by cases h⟩
theorem over : Rows.speakCsrNamesRow.holds Tryd.pinned (OpenSpec.ofChange Rows.speakCsrNamesSpec) :=
  OpenClaim.holds_of_wide 6 Tryd.f6 rfl rfl rfl rfl rfl rfl rfl ⟨rfl, rfl, rfl, rfl, rfl⟩ rfl rfl rfl rfl rfl (by kernel_rfl) Tryd.func6 (by kernel_rfl)
    (of_decide_eq_true (by kernel_rfl)) (by unfold Func.isWrapper; first | (rw [if_pos (by decide +kernel)]; kernel_rfl) | (rw [if_neg (by decide +kernel)]; exact ⟨rfl, rfl⟩))
    (fun os started H enc _ => lifted os started H enc)
theorem card : Rows.SpeakCsrNamesCardSaid :=
  Claim7.holds_tied_plain_at .later [] [.data, .data, .data, .data, .data] true (true, "16dd14d2d6dfec135885ae9747ee40450c12cc3ec14cd63f9158af498eb68971") false over (fun _ h => by cases h) (by kernel_rfl) (fun _ h => by cases h) speakCsrNames_row_tie rfl ⟨rfl, rfl⟩ (by kernel_rfl) rfl
    (fun f fn hf hfn => by
      obtain rfl : f = 6 := Option.some.inj ((show Tryd.prog.funcNamed "anvil/anvillaw07.SpeakCsrNames" = some 6 by kernel_rfl).symm.trans hf) |>.symm
      obtain rfl : fn = Tryd.f6 := (Option.some.inj (Tryd.func6.symm.trans hfn)).symm
      exact ⟨by kernel_rfl, fun j t ht => by
        rw [Tryd.params6] at ht
        have hm : t ∈ [9] := by simpa using Array.mem_of_getElem? ht
        have hall : ([9].all fun u => !Tryd.prog.wantsStandIn u) = true := by kernel_rfl
        exact (show Tryd.prog.wantsStandIn t = false by simpa using List.all_eq_true.1 hall t hm)⟩)
    (by kernel_rfl)
end Go.Proofs.YtechkhlibdkmpaaDoor.speakCsrNames
namespace Go.Proofs.YtechkhlibdkmpaaDoor
theorem speakCsrNames_holds : Rows.SpeakCsrNamesCardSaid := speakCsrNames.card
end Go.Proofs.YtechkhlibdkmpaaDoor
