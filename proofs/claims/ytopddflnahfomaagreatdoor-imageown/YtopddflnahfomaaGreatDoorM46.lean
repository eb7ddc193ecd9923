/-
  Iyd.
-/
import Derived.Test.YtopddflnahfomaaGreatDoorM40
import Derived.Test.YtopddflnahfomaaGreatDoorCards
import Derived.Test.YtopddflnahfomaaGreatDoorTie
import Derived.PinnedBridge
import Derived.Lay
import Derived.LaidOnce
import Derived.SevenTiedAt
import Derived.Lib.LaidU8T
import Derived.LaidHandle
import Derived.OpenShut
import Derived.ShutString
import Derived.ChangeOld
namespace Go.Proofs.YtopddflnahfomaaGreatDoor
set_option linter.unusedVariables false
set_option maxRecDepth 100000
open Go.ChangeShapes Go.WideShapes Go.ChangeAt Go.RowKit Go.Deep Go.Lib Go.Shelf
section
variable {H : Type} {enc : TypeId × Value → H} {w : World} {base : Nat} {held : Bool}
theorem cellsU8 : Tryz.prog.cellsOf 5 = 1 := by kernel_rfl
theorem bytesU8 : Tryz.prog.bytesOf 5 = 1 := by kernel_rfl
/-- A list of bytes that came in. -/
theorem open_bytes {fuel : Nat} {v : Value} {y : DataW H × List MemPlace} (h : DataW.trod enc Tryz.prog w base (fun _ => true) held fuel 29 [v] = some y) (hz : ∀ q ∈ y.1.weights Tryz.prog 29, q ≤ reachBytes) :
    ∃ (l : List Int) (a : Option Addr) (c : Nat), v = .slice a l.length c ∧ Byt w (.slice a l.length c) l ∧ AllB l ∧ l.length ≤ 140737488351232 := by
  rcases open_ints Tryz.underlying29 Tryz.underlying5 cellsU8 h with ⟨e3, hy3⟩ | ⟨a, len, cap, zs, e3, _, hl, hm, hzl, hy3, hcell, hwz⟩
  · simp at e3
    subst e3
    exact ⟨[], none, 0, rfl, Byt.nil w, fun x hx => by simp at hx, by simp⟩
  · simp at e3
    subst e3
    simp only [if_true] at hzl
    have hw : (lits .u8 (zs.take len) : List (DataW H)).length + (lits .u8 (zs.drop len) : List (DataW H)).length ≤ reachBytes := by
      have hmem : ((lits .u8 (zs.take len) : List (DataW H)).length + (lits .u8 (zs.drop len) : List (DataW H)).length) * 1 ∈ y.1.weights Tryz.prog 29 := by
        rw [hy3]
        simp [DataW.weights, Tryz.underlying29, bytesU8]
      have := hz _ hmem
      omega
    simp [lits, reachBytes] at hw
    have hlen : (zs.take len).length = len := by simp; omega
    refine ⟨zs.take len, some a, cap, by rw [hlen], ?_, ?_, by rw [hlen]; omega⟩
    · refine ⟨some a, cap, rfl, by rw [hlen]; omega, fun e => (by cases e), fun hne => ?_⟩
      have hpos : 0 < len := by
        rcases Nat.eq_zero_or_pos len with e | e
        · subst e; simp at hne
        · exact e
      obtain ⟨b, off, spot⟩ := a
      have hc := hcell 0 (by omega)
      have hspot : spot = none := by simpa [Addr.add] using World.cell?_spot hc
      subst hspot
      refine ⟨b, off, rfl, World.block_lt_of_cell? w _ hc, fun j hj => ?_⟩
      have hj' : j < len := by rw [hlen] at hj; exact hj
      have hcj := hcell j (by omega)
      rw [addAt] at hcj
      rw [hcj]
      simp [List.getD, hj']
    · intro z hzm
      have := hwz z (List.mem_of_mem_take hzm)
      have hb8 := bounds_u8 this
      omega
end

--@WHOLE
theorem own : ownKnob Tryz.prog.godebug = none := by kernel_rfl
theorem laidOut : laidOutB Tryz.prog = true := by kernel_rfl
theorem xL : RExtra Tryz.prog Tryz.laysLetter_ren := ⟨by kernel_rfl, by kernel_rfl, by kernel_rfl, by kernel_rfl, by kernel_rfl, by kernel_rfl, by kernel_rfl, by kernel_rfl⟩
theorem accept_eq : (Rows.laid_unicode_utf8_acceptRanges : DataW Unit) = acceptData := by kernel_rfl
theorem props_eq : (Rows.laid_unicode_properties : DataW Unit) = tabData .u8 propertiesTab := by kernel_rfl
theorem letter_eq : Rows.laid_unicode_Letter = rtabData letterT := Pinned.letter_eq
theorem first_eq : Rows.laid_unicode_utf8_first = firstData := Pinned.utf8First_eq
theorem tabIs_of_reads {P : Program} {W : World} {name : String} {k : IntKind} {zs : List Int} {g : Nat} {t e : TypeId} {n : Nat}
    (hg : P.globalNamed name = some g) (hty : (P.globals[g]?).map (·.type) = some t) (ht : P.underlying t = some (.array n e)) (he : P.underlying e = some (.int k)) (hce : P.cellsOf e = 1) (hct : P.cellsOf t = n)
    (h : VarReads P W name (tabData k zs)) : TabIs P W name k zs := by
  obtain ⟨g', t', cs, fuel, p, hg', ht', hvar, hd⟩ := h
  obtain rfl := Option.some.inj (hg.symm.trans hg')
  obtain rfl := Option.some.inj (hty.symm.trans ht')
  unfold TabIs
  rw [hvar, ← cells_of_tab ht he hce hct hd]
/-- The four that hold data. -/
def laid4 : List (String × DataW Unit) := [("unicode/utf8.acceptRanges", Rows.laid_unicode_utf8_acceptRanges), ("unicode.properties", Rows.laid_unicode_properties), ("unicode.Letter", Rows.laid_unicode_Letter), ("unicode/utf8.first", Rows.laid_unicode_utf8_first)]
theorem laid_data : (Rows.imageOwnRow.laid.filter fun x => x.2.handleName?.isNone) = laid4 := by kernel_rfl
theorem laid_hand : (Rows.imageOwnRow.laid.filter fun x => x.2.handleName?.isSome) = [("errors.errorType", Rows.laid_errors_errorType)] := by kernel_rfl
theorem tabs_of {W : World} (hL : laidMet Tryz.prog laid4 W) : Tabs W :=
  ⟨tabIs_of_reads (g := Tryz.laysLetter_ren.g 7) (t := 138) (e := 5) (n := 256) (by kernel_rfl) (by kernel_rfl) Tryz.underlying138 Tryz.underlying5 (by kernel_rfl) (by kernel_rfl) (props_eq ▸ Lib.laidMet.reads hL (.tail _ (.head _))),
   rvar_of_reads { Tryz.laysLetter with } xL (by kernel_rfl) (by kernel_rfl) (letter_eq ▸ Lib.laidMet.reads hL (.tail _ (.tail _ (.head _)))),
   utf8Tabs_of_readsT (U8Types.of196 Tryz.laysValid) ⟨by kernel_rfl, by kernel_rfl, by kernel_rfl, by kernel_rfl, by kernel_rfl, by kernel_rfl, by kernel_rfl⟩ (first_eq ▸ Lib.laidMet.reads hL (.tail _ (.tail _ (.tail _ (.head _))))) (accept_eq ▸ Lib.laidMet.reads hL (.head _))⟩
theorem et_g : Tryz.prog.globalNamed "errors.errorType" = some 0 := by kernel_rfl
theorem et_r : (Tryz.prog.cutTypes.find? (·.1 == "internal/reflectlite.rtype")).map (·.2) = some 114 := by kernel_rfl
theorem et_n : Tryz.prog.types.size = 221 := by kernel_rfl
theorem et_one : ((List.range 221).filter fun t => Tryz.prog.rowNamed t [101, 114, 114, 111, 114]) = [36] := by kernel_rfl
theorem et_f : (Rows.laid_errors_errorType : DataW Unit).funcsIn? = none := by kernel_rfl
theorem et_h : (Rows.laid_errors_errorType : DataW Unit).handleName? = some [101, 114, 114, 111, 114] := by kernel_rfl
theorem etW_of {W : World} (h : handlesMet Tryz.prog [("errors.errorType", Rows.laid_errors_errorType)] W) : EtW W := by
  have h' := h _ (List.mem_singleton.2 rfl)
  simp only [et_f] at h'
  obtain ⟨name, u, ty, e1, e2, e3, e4, e5⟩ := h'
  rw [et_h] at e1
  obtain rfl := Option.some.inj e1
  obtain rfl := Option.some.inj (et_r.symm.trans e2)
  have hm : ty ∈ (List.range 221).filter fun t => Tryz.prog.rowNamed t [101, 114, 114, 111, 114] := List.mem_filter.2 ⟨List.mem_range.2 (by rw [← et_n]; exact e3), e4⟩
  rw [et_one] at hm
  obtain rfl := List.mem_singleton.1 hm
  have hh : typeHandle Tryz.prog 36 = .pointer (some ⟨6, 36, none⟩) := by kernel_rfl
  rw [hh] at e5
  unfold EtW
  simpa using World.var?_cell et_g e5 0
/-- What a row's laid list gives. -/
theorem laid_gives {W : World} (hL : laidMetH Tryz.prog Rows.imageOwnRow.laid W) : Tabs W ∧ EtW W := by
  unfold laidMetH at hL
  rw [laid_hand] at hL
  simp only [laid_data] at hL
  exact ⟨tabs_of hL.1, etW_of hL.2⟩
/-- A world that holds the handle. -/
noncomputable def world0 (os : Os) : World :=
  let w0 := World.holding Tryz.prog os ⟨#[], #[], []⟩
  { w0 with heap := w0.heap.modify 0 fun
      | .cells _ t frozen => .cells #[.iface 114 (.agg #[.pointer (some ⟨6, 36, none⟩)])] t frozen
      | o => o }
noncomputable def worldW (os : Os) : World := (world0 os).layVars Tryz.prog laid4
theorem worldW_os (os : Os) : (worldW os).os = os := World.layVars_os _ _ _
theorem world_e1 : (laid4.filter fun x => (laid4.map (·.1)).contains x.1) = laid4 := List.filter_eq_self.2 fun x hx => List.contains_iff_mem.2 (List.mem_map.2 ⟨x, hx, rfl⟩)
theorem world_e2 : (laid4.filter fun x => !(laid4.map (·.1)).contains x.1) = [] := List.filter_eq_nil_iff.2 fun x hx => by rw [List.contains_iff_mem.2 (List.mem_map.2 ⟨x, hx, rfl⟩)]; simp
theorem world_f (os : Os) : (world0 os).layFits Tryz.prog laid4 [] = true := by kernel_rfl
theorem world_i (os : Os) : (world0 os).layIfaces Tryz.prog laid4 (worldW os) = true := by kernel_rfl
theorem world_l (os : Os) : laidMet Tryz.prog laid4 (worldW os) :=
  laidMet_layVars (w0 := world0 os) (w' := worldW os) (laid4.map (·.1)) [] (by rw [world_e1, worldW]) (by rw [world_e1]; exact world_f os) (by rw [world_e1]; exact world_i os) (by rw [world_e2]; exact LaidIn.none)
theorem world_h (os : Os) : ([("errors.errorType", Rows.laid_errors_errorType)] : List (String × DataW Unit)).all (handleAtB Tryz.prog (worldW os)) = true := by kernel_rfl
theorem world_m (os : Os) : laidMetH Tryz.prog Rows.imageOwnRow.laid (worldW os) := laidMetH_of_parts (by rw [laid_data]; exact world_l os) (by rw [laid_hand]; exact world_h os)
theorem forCall_heap (w : World) (args : Array Value) : (w.forCall (fun _ _ => 0) ⟨#[], args, []⟩).memory.heap = w.heap := by simp [World.memory, World.forCall, Input.heap]
theorem worldW_met (os : Os) (args : Array Value) : laidMetH Tryz.prog Rows.imageOwnRow.laid ((worldW os).forCall (fun _ _ => 0) ⟨#[], args, []⟩).memory :=
  (world_m os).of_heap (forCall_heap (worldW os) args).symm
end Go.Proofs.YtopddflnahfomaaGreatDoor
