/-
  Dlc Dld.
-/
import Derived.Test.YthmjimmmkoeeoaaDoorM38
import Derived.Test.YthmjimmmkoeeoaaDoorCards
import Derived.Test.YthmjimmmkoeeoaaDoorTie
import Derived.PinnedBridge
import Derived.Lay
import Derived.LaidOnce
import Derived.SevenTiedAt
import Derived.Lib.LaidU8T
import Derived.ShutString
import Derived.ChangeOld
namespace Go.Proofs.YthmjimmmkoeeoaaDoor
set_option linter.unusedVariables false
open Go.ChangeShapes Go.WideShapes Go.ChangeAt Go.RowKit Go.Deep Go.Lib Go.Shelf
def strData {H : Type} (zs : List (List UInt8)) : DataW H := .agg (zs.map fun z => .lit (.string z))
theorem cells_of_strs {H : Type} {enc : TypeId × Value → H} {P : Program} {w : World} {base : Nat} {sp : Nat → Bool} {held : Bool} {fuel : Nat} {t e : TypeId} {n : Nat} {cs : List Value} {zs : List (List UInt8)} {p : List MemPlace}
    (ht : P.underlying t = some (.array n e)) (he : P.underlying e = some .string) (hce : P.cellsOf e = 1) (hct : P.cellsOf t = n)
    (h : DataW.trod enc P w base sp held fuel t cs = some (strData zs, p)) : cs = zs.map fun z => Value.string ⟨z.toArray⟩ := by
  cases fuel with
  | zero => simp [DataW.trod] at h
  | succ fuel =>
    simp only [DataW.trod, ht, hce, hct, Nat.mul_one] at h
    split at h
    · rename_i hl
      obtain ⟨xs, hm, hx⟩ := Option.map_eq_some_iff.1 h
      have hxs : xs.map (·.1) = zs.map fun z => (DataW.lit (.string z) : DataW H) := by
        have := congrArg Prod.fst hx
        simpa [strData] using this
      have hxl : xs.length = n := by simpa using mapM_length hm
      have hzl : zs.length = n := by
        have := congrArg List.length hxs
        simp at this
        omega
      apply List.ext_getElem?
      intro i
      by_cases hi : i < n
      · obtain ⟨b, hb, hf⟩ := mapM_at hm i i (by simp [hi])
        obtain ⟨z, hc, rfl, _⟩ := DataW.trod_string he hf
        have h1 : cs[i]? = some (.string z) := by
          have := congrArg (·[0]?) hc
          simpa [List.getElem?_take, List.getElem?_drop] using this
        have h2 : (xs.map (·.1))[i]? = some (DataW.lit (.string z.data.toList) : DataW H) := by simp [hb]
        rw [hxs] at h2
        simp only [List.getElem?_map, Option.map_eq_some_iff, DataW.lit.injEq, Lit.string.injEq] at h2
        obtain ⟨z', hz', rfl⟩ := h2
        simp [h1, hz']
      · rw [List.getElem?_eq_none (by omega), List.getElem?_eq_none (by simp; omega)]
    · cases h
/-- The cells of a variable that reads so. -/
theorem row_of_var {P : Program} {W : World} {name : String} {g : Nat} {cs : Array Value} (hg : P.globalNamed name = some g) (hvar : W.var? P name = some cs) : ∃ t fr, W.heap[g]? = some (.cells cs t fr) := by
  unfold World.var? at hvar
  rw [hg] at hvar
  simp only [Option.bind_some] at hvar
  split at hvar
  · rename_i c1 t1 fr1 hq
    simp only [Option.some.injEq] at hvar
    subst hvar
    exact ⟨t1, fr1, hq⟩
  · cases hvar
theorem strs_of_reads {W : World} {name : String} {g : Nat} {t e : TypeId} {n : Nat} {zs : List (List UInt8)} (hg : Tryd.prog.globalNamed name = some g) (hty : (Tryd.prog.globals[g]?).map (·.type) = some t)
    (ht : Tryd.prog.underlying t = some (.array n e)) (he : Tryd.prog.underlying e = some .string) (hce : Tryd.prog.cellsOf e = 1) (hct : Tryd.prog.cellsOf t = n)
    (h : VarReads Tryd.prog W name (strData zs : DataW Unit)) (j : Nat) (hj : j < zs.length) : W.cell? ⟨g, j, none⟩ = some (.string ⟨(zs.getD j []).toArray⟩) := by
  obtain ⟨g', t', cs, fuel, p, hg', ht', hvar, hd⟩ := h
  obtain rfl := Option.some.inj (hg.symm.trans hg')
  obtain rfl := Option.some.inj (hty.symm.trans ht')
  have hc := cells_of_strs ht he hce hct hd
  obtain ⟨t2, fr, hh⟩ := row_of_var hg hvar
  rw [cell_of_row W g j cs t2 fr hh, ← Array.getElem?_toList, hc, List.getElem?_map, List.getElem?_eq_getElem hj]
  simp [List.getD, List.getElem?_eq_getElem hj]
theorem ints_of_reads {W : World} {name : String} {g : Nat} {t e : TypeId} {n : Nat} {k : IntKind} {zs : List Int} (hg : Tryd.prog.globalNamed name = some g) (hty : (Tryd.prog.globals[g]?).map (·.type) = some t)
    (ht : Tryd.prog.underlying t = some (.array n e)) (he : Tryd.prog.underlying e = some (.int k)) (hce : Tryd.prog.cellsOf e = 1) (hct : Tryd.prog.cellsOf t = n)
    (h : VarReads Tryd.prog W name (tabData k zs : DataW Unit)) (j : Nat) (hj : j < zs.length) : W.cell? ⟨g, j, none⟩ = some (.int k (zs.getD j 0)) := by
  obtain ⟨g', t', cs, fuel, p, hg', ht', hvar, hd⟩ := h
  obtain rfl := Option.some.inj (hg.symm.trans hg')
  obtain rfl := Option.some.inj (hty.symm.trans ht')
  have hc := cells_of_tab ht he hce hct hd
  obtain ⟨t2, fr, hh⟩ := row_of_var hg hvar
  rw [cell_of_row W g j cs t2 fr hh, ← Array.getElem?_toList, hc, List.getElem?_map, List.getElem?_eq_getElem hj]
  simp [List.getD, List.getElem?_eq_getElem hj]
theorem rgL_len : rgL.length = 32 := by decide
theorem regs_eq : (Rows.laid_anvil_anvilref07_regs : DataW Unit) = strData rgL := by kernel_rfl
theorem rg_of_reads {W : World} (h : VarReads Tryd.prog W "anvil/anvilref07.regs" (Rows.laid_anvil_anvilref07_regs : DataW Unit)) : Rg W := fun n hn =>
  strs_of_reads (by kernel_rfl) (by kernel_rfl) Tryd.underlying95 Tryd.underlying9 (by kernel_rfl) (by kernel_rfl) (regs_eq ▸ h) n (by rw [rgL_len]; exact hn)
def rnM : List (List UInt8) := rnL ++ [[], []]
def ruM : List Int := ruL ++ [-1, -1]
theorem nm_eq : (Rows.laid_anvil_anvilref07_csrNames : DataW Unit) = strData rnM := by kernel_rfl
theorem nu_eq : (Rows.laid_anvil_anvilref07_csrNumbers : DataW Unit) = tabData .i64 ruM := by kernel_rfl
theorem cs_eq : (Rows.laid_anvil_anvilref14_Csrs : DataW Unit) = tabData .i64 r12 := by kernel_rfl
def dbL : List Int := [0, 1, 56, 2, 57, 49, 28, 3, 61, 58, 42, 50, 38, 29, 17, 4, 62, 47, 59, 36, 45, 43, 51, 22, 53, 39, 33, 30, 24, 18, 12, 5, 63, 55, 48, 27, 60, 41, 37, 16, 46, 35, 44, 21, 52, 32, 23, 11, 54, 26, 40, 15, 34, 20, 31, 10, 25, 14, 19, 9, 13, 8, 7, 6]
theorem db_eq : (Rows.laid_math_bits_deBruijn64tab : DataW Unit) = tabData .u8 dbL := by kernel_rfl
theorem pw_eq : (Rows.laid_internal_strconv_uint64pow10 : DataW Unit) = tabData .u64 Lib.pow10Tab := by kernel_rfl
theorem rnM_at : ∀ i, i < 24 → i < rnM.length ∧ rnM.getD i [] = rnL.getD i [] := by decide
theorem ruM_at : ∀ i, i < 24 → i < ruM.length ∧ ruM.getD i 0 = ruL.getD i 0 := by decide
theorem nm_of_reads {W : World} (h : VarReads Tryd.prog W "anvil/anvilref07.csrNames" (Rows.laid_anvil_anvilref07_csrNames : DataW Unit)) : ∀ i, i < 24 → W.cell? ⟨3, i, none⟩ = some (.string (tS (rnL.getD i []))) := fun i hi => by
  have q := strs_of_reads (g := 3) (by kernel_rfl) (by kernel_rfl) Tryd.underlying97 Tryd.underlying9 (by kernel_rfl) (by kernel_rfl) (nm_eq ▸ h) i (rnM_at i hi).1
  rw [(rnM_at i hi).2] at q
  exact q
theorem nu_of_reads {W : World} (h : VarReads Tryd.prog W "anvil/anvilref07.csrNumbers" (Rows.laid_anvil_anvilref07_csrNumbers : DataW Unit)) : ∀ i, i < 24 → W.cell? ⟨2, i, none⟩ = some (.int .i64 (ruL.getD i 0)) := fun i hi => by
  have q := ints_of_reads (g := 2) (by kernel_rfl) (by kernel_rfl) Tryd.underlying96 Tryd.underlying3 (by kernel_rfl) (by kernel_rfl) (nu_eq ▸ h) i (ruM_at i hi).1
  rw [(ruM_at i hi).2] at q
  exact q
theorem cs_of_reads {W : World} (h : VarReads Tryd.prog W "anvil/anvilref14.Csrs" (Rows.laid_anvil_anvilref14_Csrs : DataW Unit)) : ∀ i, i < 12 → W.cell? ⟨0, i, none⟩ = some (.int .i64 (r12.getD i 0)) := fun i hi =>
  ints_of_reads (g := 0) (by kernel_rfl) (by kernel_rfl) Tryd.underlying76 Tryd.underlying3 (by kernel_rfl) (by kernel_rfl) (cs_eq ▸ h) i hi
theorem tz_of_reads {W : World} (h : VarReads Tryd.prog W "math/bits.deBruijn64tab" (Rows.laid_math_bits_deBruijn64tab : DataW Unit)) : Tz W := by
  have q := ints_of_reads (g := 7) (by kernel_rfl) (by kernel_rfl) Tryd.underlying137 Tryd.underlying5 (by kernel_rfl) (by kernel_rfl) (db_eq ▸ h) 15 (by decide)
  exact q
theorem pw_of_reads {W : World} (h : VarReads Tryd.prog W "internal/strconv.uint64pow10" (Rows.laid_internal_strconv_uint64pow10 : DataW Unit)) : Pw W := by
  obtain ⟨g', t', cs, fuel, p, hg', ht', hvar, hd⟩ := h
  obtain rfl := Option.some.inj ((show (Tryd.prog.globals[4]?).map (·.type) = some 128 by kernel_rfl).symm.trans ((Option.some.inj ((show Tryd.prog.globalNamed "internal/strconv.uint64pow10" = some 4 by kernel_rfl).symm.trans hg')) ▸ ht'))
  rw [pw_eq] at hd
  have hc := cells_of_tab Tryd.underlying128 Tryd.underlying22 (by kernel_rfl) (by kernel_rfl) hd
  show W.var? Tryd.prog "internal/strconv.uint64pow10" = _
  rw [hvar, ← hc]
theorem gp_of_reads {W : World} (h : VarReads Tryd.prog W "math/bits.deBruijn64tab" (Rows.laid_math_bits_deBruijn64tab : DataW Unit)) (k : VarReads Tryd.prog W "internal/strconv.uint64pow10" (Rows.laid_internal_strconv_uint64pow10 : DataW Unit)) : Gp W := ⟨tz_of_reads h, pw_of_reads k⟩
end Go.Proofs.YthmjimmmkoeeoaaDoor
namespace Go.Proofs.YthmjimmmkoeeoaaDoor.deckPrints
set_option linter.unusedVariables false
open Go.ChangeShapes Go.WideShapes Go.ChangeAt Go.RowKit Go.Deep Go.Lib Go.Shelf
theorem own : ownKnob Tryd.prog.godebug = none := by kernel_rfl
theorem laidOut : laidOutB Tryd.prog = true := by kernel_rfl
set_option maxRecDepth 100000 in
set_option maxHeartbeats 2000000 in
theorem lifted (os : Os) (started : os.Started) (H : Type) (enc : TypeId × Value → H) :
    ReturnsInHanded {} Tryd.checked os 3 .any (fun w args => (Rows.deckPrintsSpec.pre enc Tryd.prog Tryd.f3 [] false w args ∧ laidMetH Tryd.prog Rows.deckPrintsRow.laid w) ∧ sizedMet enc Tryd.prog Tryd.f3 (OpenSpec.ofChange Rows.deckPrintsSpec) false w args)
      (Rows.deckPrintsSpec.post enc Tryd.prog Tryd.f3 false true false false) := by
  refine returnsInHanded_of_change_and (C := Tryd.checked) (X := fun w _ => laidMetH Tryd.prog Rows.deckPrintsRow.laid w) (fun _ _ _ hh h => h.of_heap hh) own started (by kernel_rfl) Tryd.func3
    (ChangeSpec.witness_shaped (enc := enc) (C := Tryd.checked) (os := os) (X := fun w _ => laidMetH Tryd.prog Rows.deckPrintsRow.laid w) false (World.laidAll Tryd.prog os Rows.deckPrintsRow.laid) #[.agg dkZ] 8 (World.laidAll_os _ _ _)
      (World.shaped_of_ZipB (by kernel_rfl) (by kernel_rfl)) (by kernel_rfl) (by kernel_rfl) (by kernel_rfl)
      (by rw [MakeChecks.laidMetH_plain _ _ _ (by kernel_rfl)]; exact laidMet_laidAll _ (by kernel_rfl) (by kernel_rfl))) ?_
  intro W base args ds gs before hval0 hW _ hz0 hL _
  have hval : ∀ (j : Nat) t v, Tryd.f3.params[j]? = some t → args[j]? = some v → Value.okWide Tryd.prog W .any base t v := hval0
  have hW' := hW
  obtain ⟨p, q, hA0, hV, rfl, _, _⟩ := hW
  have hA : DataW.TrodAll enc Tryd.prog W 0 (fun _ => true) true Tryd.f3.params.toList args.toList ds p := hA0
  have hz1 : (DataW.weightsEach Tryd.prog (Tryd.f3.params.toList ++ Rows.deckPrintsSpec.plain.varTypes Tryd.prog) (ds ++ gs)).all (· ≤ reachBytes) = true := hz0
  rw [Tryd.params3] at hA hval hz1
  obtain ⟨v0, d0, rfl, rfl, h0⟩ := trodAll_one hA
  obtain ⟨rfl, rfl⟩ := trodVars_none hV
  have k0 := h0
  have lt0 : ∀ x ∈ p, x.block < W.heap.size := by obtain ⟨m, hm⟩ := k0; exact DataW.trod_lt m _ _ _ hm
  have hzA0 : ∀ n ∈ d0.weights Tryd.prog 35, n ≤ reachBytes := fun n hn => by
    have := List.all_eq_true.1 hz1 n (DataW.weights_mem_each (j := 0) (t := 35) (d := d0) rfl rfl n hn)
    simpa using this
  obtain ⟨r, K, mt, ps, ws, x, u, rfl, q1, q2, q3, q4, q5, q6, q7⟩ := open_deck1 (hval 0 35 v0 rfl rfl) h0 hzA0
  rw [MakeChecks.laidMetH_plain _ _ _ (by kernel_rfl)] at hL
  have hG : Gp W := gp_of_reads (Lib.laidMet.reads hL (.tail _ (.head _))) (Lib.laidMet.reads hL (.tail _ (.tail _ (.head _))))
  have hT : Rt W := ⟨rg_of_reads (Lib.laidMet.reads hL (.tail _ (.tail _ (.tail _ (.head _))))), nm_of_reads (Lib.laidMet.reads hL (.tail _ (.tail _ (.tail _ (.tail _ (.head _)))))), nu_of_reads (Lib.laidMet.reads hL (.tail _ (.tail _ (.tail _ (.tail _ (.tail _ (.head _))))))), cs_of_reads (Lib.laidMet.reads hL (.tail _ (.tail _ (.tail _ (.tail _ (.tail _ (.tail _ (.head _))))))))⟩
  clear hA0 hval0 hz0
  refine (deckPrints_walk r K mt ps ws x u W q1 hG hT q2 q3 (by omega) (by omega) (fun p hp => by have := q6 p hp; omega) (fun y hy => by have := q7 y hy; omega)).mono fun e W' ⟨he, bel⟩ => ?_
  subst he
  exact ⟨_, rfl, _, _, _, [], _, [], hW', trodAll_mk1 (shut_bool Tryd.underlying4 _), trodAll_mk1 (Below.trod laidOut (by kernel_rfl) (of_decide_eq_true (by kernel_rfl)) k0 bel lt0), rfl, bel.frame _, fun h => by cases h⟩
theorem over : Rows.deckPrintsRow.holds Tryd.pinned (OpenSpec.ofChange Rows.deckPrintsSpec) :=
  OpenClaim.holds_of_wide 3 Tryd.f3 rfl rfl rfl rfl rfl rfl rfl ⟨rfl, rfl, rfl, rfl, rfl⟩ rfl rfl rfl rfl rfl (by kernel_rfl) Tryd.func3 (by kernel_rfl)
    (of_decide_eq_true (by kernel_rfl)) (by unfold Func.isWrapper; first | (rw [if_pos (by decide +kernel)]; kernel_rfl) | (rw [if_neg (by decide +kernel)]; exact ⟨rfl, rfl⟩))
    (fun os started H enc _ => lifted os started H enc)
theorem card : Rows.DeckPrintsCardSaid :=
  Claim7.holds_tied_plain_at .later [] [.data, .data, .data, .data, .data, .data, .data] true (true, "f8e15f58b011de8b729e1ad9624b2cecec5a33525d23b97e47fc201d64d7ba9f") false over (fun _ h => by cases h) (by kernel_rfl) (fun _ h => by cases h) deckPrints_row_tie rfl ⟨rfl, rfl⟩ (by kernel_rfl) rfl
    (fun f fn hf hfn => by
      obtain rfl : f = 3 := Option.some.inj ((show Tryd.prog.funcNamed "anvil/anvillaw14.DeckPrints" = some 3 by kernel_rfl).symm.trans hf) |>.symm
      obtain rfl : fn = Tryd.f3 := (Option.some.inj (Tryd.func3.symm.trans hfn)).symm
      exact ⟨by kernel_rfl, fun j t ht => by
        rw [Tryd.params3] at ht
        have hm : t ∈ [35] := by simpa using Array.mem_of_getElem? ht
        have hall : ([35].all fun u => !Tryd.prog.wantsStandIn u) = true := by kernel_rfl
        exact (show Tryd.prog.wantsStandIn t = false by simpa using List.all_eq_true.1 hall t hm)⟩)
    (by kernel_rfl)
end Go.Proofs.YthmjimmmkoeeoaaDoor.deckPrints
namespace Go.Proofs.YthmjimmmkoeeoaaDoor
theorem deckPrints_holds : Rows.DeckPrintsCardSaid := deckPrints.card
end Go.Proofs.YthmjimmmkoeeoaaDoor
