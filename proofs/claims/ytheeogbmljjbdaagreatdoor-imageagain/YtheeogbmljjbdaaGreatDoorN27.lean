/-
  Iyc.
-/
import Derived.Test.YtheeogbmljjbdaaGreatDoorN26
namespace Go.Proofs.YtheeogbmljjbdaaGreatDoor
set_option linter.unusedVariables false
set_option maxRecDepth 100000
open Go.ChangeShapes Go.WideShapes Go.ChangeAt Go.RowKit Go.Deep
theorem neq_flt (x y : Int) (w : World) : (binOp .neq 46 (.agg #[.int .i64 0, .int .i64 x, .int .i64 y]) (.agg #[.int .i64 0, .int .i64 x, .int .i64 y])).run Tryz.prog w = .ok (.bool false) w := by
  have u3 := Tryz.underlying3
  have a3 := Tryz.isAgg3
  have z3 := Tryz.sizeOf3
  have u4 := Tryz.underlying28
  have a4 := Tryz.isAgg28
  have z4 := Tryz.sizeOf28
  have hS : Tryz.prog.underlying 46 = some (.struct (Tryz.prog.fieldsOf 46)) := by kernel_rfl
  have hp : Tryz.prog.stoodInHeld 46 = false := by kernel_rfl
  rw [run_neq_struct, show (10000 : Nat) = 9999 + 1 from rfl, run_equalIn_agg w 9999 46 _ _ hS hp]
  simp only [Program.fieldsOf, Tryz.underlying46]
  go_simp
theorem neqG_flt (u v : Array Value) (x y : Operand) (w : World) : (eqGuard .neq 46 x y (.agg u) (.agg v)).run Tryz.prog w = .ok () w := by kernel_rfl
/-- Only one block has been written. -/
structure Oth (gl : Nat) (w w' : World) : Prop where
  os : w'.os = w.os
  tape : w'.tape = w.tape
  output : w'.output = w.output
  size : w.heap.size ≤ w'.heap.size
  block : ∀ j, j < w.heap.size → j ≠ gl → w'.heap[j]? = w.heap[j]?
theorem Oth.refl (gl : Nat) (w : World) : Oth gl w w := ⟨rfl, rfl, rfl, Nat.le_refl _, fun _ _ _ => rfl⟩
theorem Oth.set {gl : Nat} {w w' : World} (h : Oth gl w w') (k : Nat) (u : Value) : Oth gl w (w'.setCell ⟨gl, k, none⟩ u) :=
  ⟨h.os, h.tape, h.output, by simp; exact h.size, fun j h1 h2 => (heap_setCell_other w' _ j _ h2).trans (h.block j h1 h2)⟩
theorem Oth.below {gl B : Nat} {w0 w w' : World} (h : Oth gl w w') (hb : Below B w0 w) (hB : B ≤ gl) (hS : B ≤ w.heap.size) : Below B w0 w' :=
  ⟨h.os.trans hb.os, h.tape.trans hb.tape, h.output.trans hb.output, Nat.le_trans hb.size h.size, fun j hj => (h.block j (Nat.lt_of_lt_of_le hj hS) (by omega)).trans (hb.block j hj)⟩
set_option maxHeartbeats 16000000 in
theorem reads_walk {b : List Int} (hB : AllB b) (hbl : b.length ≤ 140737488351232) (a : Option Addr) (cap : Nat) (w : World) (hv : Byt w (.slice a b.length cap) b) (hT : Tabs w) (hE : EtW w) :
    Calls Tryz.prog 7 #[.slice a b.length cap] w fun e w' => e = .returned (.bool true) ∧ Below w.heap.size w w' := by
  have HV : Hid (∀ w', Below w.heap.size w w' → Byt w' (.slice a b.length cap) b) := fun w' hb => hv.later hb rfl
  have HTB : Hid (∀ w', Below w.heap.size w w' → Tabs w') := fun w' hb => hT.below hb rfl
  have HET : Hid (∀ w', Below w.heap.size w w' → EtW w') := fun w' hb => hE.below hb rfl
  have HB := Hid.mkI hB
  have HBL := Hid.mkI hbl
  have cLo : Hid (Calls Tryz.prog 16 #[.slice a b.length cap] w fun e w' => ∃ u, e = .returned u ∧ Owb w.heap.size w' u (b ++ mks 64) ∧ Below w.heap.size w w') := loose_c b _ w hv hbl
  have cL2 : Hid (Calls Tryz.prog 16 #[.slice a b.length cap] w fun e w' => ∃ gl cl, e = .returned (.slice (some ⟨gl, 0, none⟩) (b.length + 64) cl) ∧ Owb w.heap.size w' (.slice (some ⟨gl, 0, none⟩) (b.length + 64) cl) (b ++ mks 64) ∧ Below w.heap.size w w' ∧ b.length + 64 ≤ cl ∧ w.heap.size ≤ gl ∧ gl < w'.heap.size) := cLo.out.mono fun e w' ⟨u, he, ho, hb⟩ => by
    have hl : (b ++ mks 64).length = b.length + 64 := by rw [List.length_append, mks_length]
    obtain ⟨g, c, rfl⟩ := Go.Joins.ownsRow_form ho (by rw [hl]; omega)
    have hlt := ho.lt g rfl
    rw [hl] at ho he
    refine ⟨g, c, he, ho, hb, ?_, hlt.1, hlt.2⟩
    unfold Owb at ho
    rcases ho.2 with ⟨h', _⟩ | ⟨g', cap', cur, h', _, _, hn, _⟩
    · cases h'
    · simp only [Value.slice.injEq] at h'
      rw [hl] at hn
      omega
  obtain ⟨n, hn⟩ : ∃ n, n = b.length := ⟨_, rfl⟩
  have HN := Hid.mkI hn
  rw [← hn] at HV cL2 ⊢
  have hnI : (n : Int) ≤ 140737488351232 := by omega
  clear hv hT hE cLo hB hbl hn
  go_enter Tryz.func7, Tryz.ntmps7
  go_upto_region 2 with (go_at_call 16; refine cL2.out.mono ?_; rintro e w1 ⟨gl, cl, rfl, ho, hb, h1, h2, h3⟩; have HO1 := Hid.mkI ho; have H1 := Hid.mkI hb; have HC1 := Hid.mkI h1; have HG1 := Hid.mkI h2; have HG2 := Hid.mkI h3; clear ho hb h1 h2 h3)
  clear cL2
  --@M0
  have hsl : ∀ W, (Instr.slice 31 (.slice (some ⟨gl, 0, none⟩) (n + 64) cl) none (some (.int .i64 (n : Int))) none).run Tryz.prog W = .ok (.slice (some ⟨gl, 0, none⟩) n cl) W := fun W => by
    have hc := HC1.out
    rw [sl_h W (some ⟨gl, 0, none⟩) (n + 64) cl n (by omega), if_neg (by omega)]
    simp [addAt]
  have HY1 : Hid (Byt w1 (.slice (some ⟨gl, 0, none⟩) n cl) b) := by
    have q := (Byt.of_own HO1.out).cut 0 n cl (Nat.zero_le _) (by have := HC1.out; omega) (Nat.le_refl _) (by rw [List.length_append, HN.out]; omega)
    rw [List.drop_zero, Nat.sub_zero, Nat.sub_zero, HN.out, List.take_append_of_le_length (Nat.le_refl _), List.take_length] at q
    have hc := HC1.out
    rw [if_neg (by omega), show ((some (⟨gl, 0, none⟩ : Addr)).map fun x => x.add 0) = some ⟨gl, 0, none⟩ from by simp [addAt]] at q
    rw [HN.out]
    exact q
  have cRd : Hid (Calls Tryz.prog 14 #[.slice (some ⟨gl, 0, none⟩) n cl] w1 fun e w' => RdP b w1 e w') := read_c HB.out (by have := HBL.out; omega) _ w1 HY1.out (HTB.out _ H1.out) (HET.out _ H1.out)
  have cRf : Hid (∀ wx, Below w.heap.size w wx → Calls Tryz.prog 17 #[.slice a n cap] wx fun e w' => RfP b wx e w') := fun wx hx => rread_c HB.out (by have := HBL.out; omega) _ wx (HV.out wx hx) (HTB.out wx hx)
  have hfz := neq_flt
  have hfg := neqG_flt
  cases hF : rdF b with
  | none =>
    have cR : Hid (Calls Tryz.prog 14 #[.slice (some ⟨gl, 0, none⟩) n cl] w1 fun e w' => ∃ um un uc vm vn vc L, e = .returned (.tuple #[.agg #[.int .u64 ((vl b 24 8 : Nat) : Int), .slice um un uc, .slice vm vn vc], .nilIface]) ∧ ImO b w1.heap.size w' (.slice um un uc) (.slice vm vn vc) L ∧ Below w1.heap.size w1 w') := cRd.out.mono fun e w' hq => by
      rcases hq with ⟨_, u, v, L, rfl, q1, q2⟩ | ⟨F, g, q, _⟩
      · obtain ⟨um, un, uc, rfl⟩ := own_slice q1.segs
        obtain ⟨vm, vn, vc, rfl⟩ := own_slice q1.syms
        exact ⟨um, un, uc, vm, vn, vc, L, rfl, q1, q2⟩
      · rw [hF] at q; cases q
    have cS : Hid (∀ wx, Below w.heap.size w wx → Calls Tryz.prog 17 #[.slice a n cap] wx fun e w' => ∃ um un uc vm vn vc L, e = .returned (.tuple #[.agg #[.int .u64 ((vl b 24 8 : Nat) : Int), .slice um un uc, .slice vm vn vc], .agg #[.int .i64 0, .int .i64 0, .int .i64 0]]) ∧ ImO b wx.heap.size w' (.slice um un uc) (.slice vm vn vc) L ∧ Below wx.heap.size wx w') := fun wx hx => (cRf.out wx hx).mono fun e w' hq => by
      rcases hq with ⟨_, u, v, L, rfl, q1, q2⟩ | ⟨F, q, _⟩
      · obtain ⟨um, un, uc, rfl⟩ := own_slice q1.segs
        obtain ⟨vm, vn, vc, rfl⟩ := own_slice q1.syms
        exact ⟨um, un, uc, vm, vn, vc, L, rfl, q1, q2⟩
      · rw [hF] at q; cases q
    have HAL : Hid (∀ wx u v u' v' L M B B', ImO b B wx u v L → ImO b B' wx u' v' M → Calls Tryz.prog 15 #[.agg #[.int .u64 ((vl b 24 8 : Nat) : Int), u, v], .agg #[.int .u64 ((vl b 24 8 : Nat) : Int), u', v']] wx fun e w' => e = .returned (.bool true) ∧ Below wx.heap.size wx w') := fun wx u v u' v' L M B B' h1 h2 => alike_im HB.out h1 h2
    have hnil : ∀ w : World, (binOp .eql 36 .nilIface .nilIface).run Tryz.prog w = .ok (.bool true) w := fun w => by kernel_rfl
    have heg : ∀ (w : World), (eqGuard .eql 36 (.tmp 39) (.const .nilIface) .nilIface .nilIface).run Tryz.prog w = .ok () w := fun w => by kernel_rfl
    generalize ((vl b 24 8 : Nat) : Int) = EN at cR cS HAL
    clear hF cRd cRf
    go_upto_region 3 with (go_at_call 14; refine cR.out.mono ?_; rintro e w2 ⟨um, un, uc, vm, vn, vc, L, rfl, q1, q2⟩; have HI2 := Hid.mkI q1; have B2 := Hid.mkI q2; have H2 : Hid (Below w.heap.size w w2) := H1.out.trans (q2.mono H1.out.size); clear q1 q2)
    clear cR hsl
    --@M1
    refine on_w (motive := fun W => Code.wp _ _ _ _ W) (Q := fun W => W.heap[w2.heap.size]? = some (.cells #[.int .u64 EN, .slice um un uc, .slice vm vn vc] 26 (0, 0)) ∧ Below w2.heap.size w2 W) ⟨heap_alloc_new w2 _, below_al _⟩ ?_
    generalize hgA : w2.heap.size = gA
    rintro W3 ⟨s1, s2⟩
    have RA := Hid.mkI s1
    have BB : Hid (Below w2.heap.size w2 W3) := by unfold Hid; rw [hgA]; exact s2
    have HGA := Hid.mkI hgA
    clear s1 s2 hgA
    have HI3 : Hid (ImO b w1.heap.size W3 (.slice um un uc) (.slice vm vn vc) L) := HI2.out.below BB.out
    have H3 : Hid (Below w.heap.size w W3) := H2.out.trans (BB.out.mono H2.out.size)
    go_upto_region 4 with (go_at_call 17; refine (cS.out _ H3.out).mono ?_; rintro e w4 ⟨xm, xn, xc, ym, yn, yc, M, rfl, q1, q2⟩; have HJ4 := Hid.mkI q1; have B4 := Hid.mkI q2; have H4 : Hid (Below w.heap.size w w4) := H3.out.trans (q2.mono H3.out.size); clear q1 q2)
    --@M2
    refine on_w (motive := fun W => Code.wp _ _ _ _ W) (Q := fun W => W.heap[w4.heap.size]? = some (.cells #[.int .u64 EN, .slice xm xn xc, .slice ym yn yc] 26 (0, 0)) ∧ W.heap[w4.heap.size + 1]? = some (.cells #[.int .i64 0, .int .i64 0, .int .i64 0] 46 (0, 0)) ∧ Below w4.heap.size w4 W) ⟨heap_alloc2_old w4 _ _, heap_alloc2_new w4 _ _, ((Below.refl _ _).alloc (Nat.le_refl _) _).alloc (by simp) _⟩ ?_
    generalize hgB : w4.heap.size = gB
    rintro W5 ⟨s1, s2, s3⟩
    have RB := Hid.mkI s1
    have RC := Hid.mkI s2
    have B5 : Hid (Below w4.heap.size w4 W5) := by unfold Hid; rw [hgB]; exact s3
    have HGB := Hid.mkI hgB
    clear s1 s2 s3 hgB
    have B35 : Hid (Below W3.heap.size W3 W5) := B4.out.trans (B5.out.mono B4.out.size)
    have H5 : Hid (Below w.heap.size w W5) := H4.out.trans (B5.out.mono H4.out.size)
    have cPl : Hid (Calls Tryz.prog 18 #[.nilIface] W5 fun e w' => e = .returned (.tuple #[.agg #[.int .i64 0, .int .i64 0, .int .i64 0], .bool true]) ∧ Below W5.heap.size W5 w') := place_n _
    go_upto_region 5 with (go_at_call 18; refine cPl.out.mono ?_; rintro e w6 ⟨rfl, q2⟩; have B6 := Hid.mkI q2; clear q2)
    refine on_w (motive := fun W => Code.wp _ _ _ _ W) (Q := fun W => W.heap[w6.heap.size]? = some (.cells #[.int .i64 0, .int .i64 0, .int .i64 0] 46 (0, 0)) ∧ Below w6.heap.size w6 W) ⟨heap_alloc_new w6 _, below_al _⟩ ?_
    generalize hgC : w6.heap.size = gC
    rintro W7 ⟨s1, s2⟩
    have RD := Hid.mkI s1
    have B7 : Hid (Below w6.heap.size w6 W7) := by unfold Hid; rw [hgC]; exact s2
    clear s1 s2 hgC
    have B57 : Hid (Below W5.heap.size W5 W7) := B6.out.trans (B7.out.mono B6.out.size)
    have B37 : Hid (Below W3.heap.size W3 W7) := B35.out.trans (B57.out.mono B35.out.size)
    have H7 : Hid (Below w.heap.size w W7) := H5.out.trans (B57.out.mono H5.out.size)
    have B17 : Hid (Below w1.heap.size w1 W7) := B2.out.trans ((BB.out.trans (B37.out.mono BB.out.size)).mono B2.out.size)
    have RA7 : Hid (W7.heap[gA]? = some (.cells #[.int .u64 EN, .slice um un uc, .slice vm vn vc] 26 (0, 0))) := (B37.out.block gA (heap_lt RA.out)).trans RA.out
    have RB7 : Hid (W7.heap[gB]? = some (.cells #[.int .u64 EN, .slice xm xn xc, .slice ym yn yc] 26 (0, 0))) := (B57.out.block gB (heap_lt RB.out)).trans RB.out
    have RC7 : Hid (W7.heap[gB + 1]? = some (.cells #[.int .i64 0, .int .i64 0, .int .i64 0] 46 (0, 0))) := (B57.out.block _ (heap_lt RC.out)).trans RC.out
    have HI7 : Hid (ImO b w1.heap.size W7 (.slice um un uc) (.slice vm vn vc) L) := HI3.out.below B37.out
    have HJ7 : Hid (ImO b W3.heap.size W7 (.slice xm xn xc) (.slice ym yn yc) M) := (HJ4.out.below B5.out).below B57.out
    have HO7 : Hid (W7.ownsRow w.heap.size 5 1 (.slice (some ⟨gl, 0, none⟩) (n + 64) cl) (b ++ mks 64).length (bv (b ++ mks 64))) := own_below HO1.out B17.out
    have cKp : Hid (Calls Tryz.prog 19 #[.slice (some ⟨gl, 0, none⟩) (n + 64) cl, .slice a n cap] W7 fun e w' => e = .returned (.bool true) ∧ w' = W7) := kept_t b _ _ W7 (Byt.of_own HO7.out) (HV.out _ H7.out) HBL.out
    have HKW : Hid (∀ W, W = W7 ∨ W = W7.drew ∨ (∃ q, W = W7.drewN q) → Calls Tryz.prog 19 #[.slice (some ⟨gl, 0, none⟩) (n + 64) cl, .slice a n cap] W fun e w' => e = .returned (.bool true) ∧ w' = W) := fun W hW => by
      have e : Below W7.heap.size W7 W := by
        rcases hW with rfl | rfl | ⟨q, rfl⟩
        · exact Below.refl _ _
        · exact Below.drew (Below.refl _ _)
        · exact below_drewX (Below.refl _ _) q
      exact kept_t b _ _ W (Byt.of_own (own_below HO7.out e)) (HV.out _ (H7.out.trans (e.mono H7.out.size))) HBL.out
    have k0 := cell_of_row W7 gC 0 _ _ _ RD.out
    have k1 := cell_of_row W7 gC 1 _ _ _ RD.out
    have k2 := cell_of_row W7 gC 2 _ _ _ RD.out
    have m0 := cell_of_row W7 (gB + 1) 0 _ _ _ RC7.out
    have m1 := cell_of_row W7 (gB + 1) 1 _ _ _ RC7.out
    have m2 := cell_of_row W7 (gB + 1) 2 _ _ _ RC7.out
    have hnum : Hid (∀ W, Calls Tryz.prog 13 #[.int .i64 0] W fun e w' => e = .returned (.int .i64 0) ∧ w' = W) := fun W => num_c _ W
    --@QN
    go_quiet ((first | (go_at_call 13; exact Calls.quiet_of_same (hnum.out _)) | (go_at_call 19; exact Calls.quiet_of_same (HKW.out _ (by first | exact .inl rfl | exact .inr (.inl rfl) | exact .inr (.inr ⟨_, rfl⟩)))) | fail))
    --@PN
    go_upto_region 7 with fail
    refine on_w (motive := fun W => Code.wp _ _ _ _ W) (Q := fun W => Below W7.heap.size W7 W) (below_drewX (Below.refl _ _) _) ?_
    clear k0 k1 k2 m0 m1 m2
    intro W8 s1
    have B78 := Hid.mkI s1
    clear s1
    have HO8 : Hid (W8.ownsRow w.heap.size 5 1 (.slice (some ⟨gl, 0, none⟩) (n + 64) cl) (b ++ mks 64).length (bv (b ++ mks 64))) := own_below HO7.out B78.out
    have H8 : Hid (Below w.heap.size w W8) := H7.out.trans (B78.out.mono H7.out.size)
    have HCU : Hid (∃ cur : Array Value, W8.heap[gl]? = some (.cells cur 5 (0, 0)) ∧ n + 64 ≤ cur.size) := by
      rcases HO8.out.2 with ⟨h', _⟩ | ⟨g', cap', cur, h', h1, h2, h3, h4, h5, h6⟩
      · cases h'
      · simp only [Value.slice.injEq, Option.some.injEq, Addr.mk.injEq] at h'
        refine ⟨cur, by rw [h'.1.1]; exact h2, by omega⟩
    go_wp2
    go_loopw [10] (fun i wr => ∃ k : Nat, k ≤ n + 64 ∧ i = .int .i64 k ∧ Hid (∃ cur : Array Value, wr.heap[gl]? = some (.cells cur 5 (0, 0)) ∧ n + 64 ≤ cur.size) ∧ Hid (Oth gl W8 wr)) (fun i _ => n + 64 - (intOf i).toNat)
    case atStart => exact ⟨0, Nat.zero_le _, rfl, HCU, Oth.refl _ _⟩
    case round =>
      obtain ⟨k, hk, rfl, hcu, hx⟩ := hrel
      clear HCU
      by_cases hlt : k < n + 64
      · have hlt2 : (k : Int) < (n : Int) + 64 := by omega
        obtain ⟨cur, hcur, hsz⟩ := hcu.out
        obtain ⟨y, hy⟩ : ∃ y, cur[k]? = some y := ⟨_, Array.getElem?_eq_getElem (by omega)⟩
        have hce : wr.cell? ⟨gl, k, none⟩ = some y := (cell_of_row wr gl k _ _ _ hcur).trans hy
        have hfr := frozen_of_row wr gl k _ _ hcur
        have HRW := Hid.mkI hcur
        have HSZ := Hid.mkI hsz
        clear hcur hsz hy hcu
        have hkb : (k : Int) < 140737488355328 := by omega
        go_wp2
        go_roundw
        case rel => exact ⟨k + 1, by omega, by go_num, ⟨_, heap_setCell_same wr gl k _ _ _ HRW.out, by rw [Array.size_setIfInBounds]; exact HSZ.out⟩, hx.out.set k _⟩
        case measure => simp [intOf]; omega
      · have hz : ¬ (k : Int) < (n : Int) + 64 := by omega
        have hg1 : gl < w1.heap.size := HG2.out
        have s17 := B17.out.size
        have s78 := B78.out.size
        have hgA1 : gA ≠ gl := by have := HGA.out; have := B2.out.size; omega
        have hgB1 : gB ≠ gl := by have := HGB.out; have := B2.out.size; have := BB.out.size; have := B4.out.size; omega
        have ra : wr.heap[gA]? = some (.cells #[.int .u64 EN, .slice um un uc, .slice vm vn vc] 26 (0, 0)) := (hx.out.block gA (Nat.lt_of_lt_of_le (heap_lt RA7.out) s78) hgA1).trans ((B78.out.block gA (heap_lt RA7.out)).trans RA7.out)
        have rb : wr.heap[gB]? = some (.cells #[.int .u64 EN, .slice xm xn xc, .slice ym yn yc] 26 (0, 0)) := (hx.out.block gB (Nat.lt_of_lt_of_le (heap_lt RB7.out) s78) hgB1).trans ((B78.out.block gB (heap_lt RB7.out)).trans RB7.out)
        have a0 := cell_of_row wr gA 0 _ _ _ ra
        have b0 := cell_of_row wr gB 0 _ _ _ rb
        have a1 := cell_of_row wr gA 1 _ _ _ ra
        have b1 := cell_of_row wr gB 1 _ _ _ rb
        have a2 := cell_of_row wr gA 2 _ _ _ ra
        have b2 := cell_of_row wr gB 2 _ _ _ rb
        have cAl : Hid (Calls Tryz.prog 15 #[.agg #[.int .u64 EN, .slice um un uc, .slice vm vn vc], .agg #[.int .u64 EN, .slice xm xn xc, .slice ym yn yc]] wr fun e w' => e = .returned (.bool true) ∧ Below wr.heap.size wr w') := HAL.out wr _ _ _ _ L M w1.heap.size W3.heap.size ((HI7.out.below B78.out).keepB (fun j h1 h2 => hx.out.block j h2 (by omega))) ((HJ7.out.below B78.out).keepB (fun j h1 h2 => hx.out.block j h2 (by have := B2.out.size; have := BB.out.size; omega)))
        have HBX : Hid (Below w.heap.size w wr) := hx.out.below H8.out HG1.out H8.out.size
        clear hlt ra rb
        go_wp2_with (go_at_call 15; refine cAl.out.mono ?_; rintro e w9 ⟨rfl, q⟩; have B9 := Hid.mkI q; clear q)
        go_ret
        exact ⟨rfl, HBX.out.trans (B9.out.mono HBX.out.size)⟩
  | some F =>
    have hF2 := wy_rd b F hF
    have cR : Hid (Calls Tryz.prog 14 #[.slice (some ⟨gl, 0, none⟩) n cl] w1 fun e w' => ∃ g, e = .returned (.tuple #[.agg #[.int .u64 0, .slice none 0 0, .slice none 0 0], .iface 79 (.pointer (some ⟨g, 0, none⟩))]) ∧ w1.heap.size ≤ g ∧ w'.heap[g]? = some (.cells #[.int .i64 0, .int .i64 F.1, .int .i64 F.2] 46 (0, 0)) ∧ Below w1.heap.size w1 w') := cRd.out.mono fun e w' hq => by
      rcases hq with ⟨q, _⟩ | ⟨F', g, q, r⟩
      · rw [hF] at q; cases q
      · rw [hF] at q; cases q; exact ⟨g, r⟩
    have cS : Hid (∀ wx, Below w.heap.size w wx → Calls Tryz.prog 17 #[.slice a n cap] wx fun e w' => e = .returned (.tuple #[.agg #[.int .u64 0, .slice none 0 0, .slice none 0 0], .agg #[.int .i64 0, .int .i64 F.1, .int .i64 F.2]]) ∧ Below wx.heap.size wx w') := fun wx hx => (cRf.out wx hx).mono fun e w' hq => by
      rcases hq with ⟨q, _⟩ | ⟨F', q, r⟩
      · rw [hF] at q; cases q
      · rw [hF] at q; cases q; exact r
    obtain ⟨y1, hy1⟩ : ∃ y1 : Int, y1 = (F.1 : Int) := ⟨_, rfl⟩
    obtain ⟨y2, hy2⟩ : ∃ y2 : Int, y2 = (F.2 : Int) := ⟨_, rfl⟩
    rw [← hy1, ← hy2] at cR cS
    have hy2b : (y2 == 0) = false := by rw [beq_eq_false_iff_ne, hy2]; omega
    clear hF cRd cRf hy1 hy2 hF2
    go_upto_region 3 with (go_at_call 14; refine cR.out.mono ?_; rintro e w2 ⟨gf, rfl, p1, p2, q2⟩; have HGF := Hid.mkI p1; have HRF := Hid.mkI p2; have B2 := Hid.mkI q2; have H2 : Hid (Below w.heap.size w w2) := H1.out.trans (q2.mono H1.out.size); clear p1 p2 q2)
    clear cR hsl
    refine on_w (motive := fun W => Code.wp _ _ _ _ W) (Q := fun W => W.heap[w2.heap.size]? = some (.cells #[.int .u64 0, .slice none 0 0, .slice none 0 0] 26 (0, 0)) ∧ Below w2.heap.size w2 W) ⟨heap_alloc_new w2 _, below_al _⟩ ?_
    generalize hgA : w2.heap.size = gA
    rintro W3 ⟨s1, s2⟩
    have RA := Hid.mkI s1
    have BB : Hid (Below w2.heap.size w2 W3) := by unfold Hid; rw [hgA]; exact s2
    have HGA := Hid.mkI hgA
    clear s1 s2 hgA
    have HRF3 : Hid (W3.heap[gf]? = some (.cells #[.int .i64 0, .int .i64 y1, .int .i64 y2] 46 (0, 0))) := (BB.out.block gf (heap_lt HRF.out)).trans HRF.out
    have H3 : Hid (Below w.heap.size w W3) := H2.out.trans (BB.out.mono H2.out.size)
    go_upto_region 4 with (go_at_call 17; refine (cS.out _ H3.out).mono ?_; rintro e w4 ⟨rfl, q2⟩; have B4 := Hid.mkI q2; have H4 : Hid (Below w.heap.size w w4) := H3.out.trans (q2.mono H3.out.size); clear q2)
    have hnil : ∀ w : World, (binOp .eql 36 (.iface 79 (.pointer (some ⟨gf, 0, none⟩))) .nilIface).run Tryz.prog w = .ok (.bool false) w := fun w => by kernel_rfl
    have heg : ∀ (w : World), (eqGuard .eql 36 (.tmp 39) (.const .nilIface) (.iface 79 (.pointer (some ⟨gf, 0, none⟩))) .nilIface).run Tryz.prog w = .ok () w := fun w => by kernel_rfl
    --@M4
    refine on_w (motive := fun W => Code.wp _ _ _ _ W) (Q := fun W => W.heap[w4.heap.size]? = some (.cells #[.int .u64 0, .slice none 0 0, .slice none 0 0] 26 (0, 0)) ∧ W.heap[w4.heap.size + 1]? = some (.cells #[.int .i64 0, .int .i64 y1, .int .i64 y2] 46 (0, 0)) ∧ Below w4.heap.size w4 W) ⟨heap_alloc2_old w4 _ _, heap_alloc2_new w4 _ _, ((Below.refl _ _).alloc (Nat.le_refl _) _).alloc (by simp) _⟩ ?_
    generalize hgB : w4.heap.size = gB
    rintro W5 ⟨s1, s2, s3⟩
    have RB := Hid.mkI s1
    have RC := Hid.mkI s2
    have B5 : Hid (Below w4.heap.size w4 W5) := by unfold Hid; rw [hgB]; exact s3
    have HGB := Hid.mkI hgB
    clear s1 s2 s3 hgB
    have B35 : Hid (Below W3.heap.size W3 W5) := B4.out.trans (B5.out.mono B4.out.size)
    have H5 : Hid (Below w.heap.size w W5) := H4.out.trans (B5.out.mono H4.out.size)
    have RF5 : Hid (W5.heap[gf]? = some (.cells #[.int .i64 0, .int .i64 y1, .int .i64 y2] 46 (0, 0))) := (B35.out.block gf (heap_lt HRF3.out)).trans HRF3.out
    have cPl : Hid (Calls Tryz.prog 18 #[.iface 79 (.pointer (some ⟨gf, 0, none⟩))] W5 fun e w' => e = .returned (.tuple #[.agg #[.int .i64 0, .int .i64 y1, .int .i64 y2], .bool true]) ∧ Below W5.heap.size W5 w') := place_f gf y1 y2 _ (HET.out _ H5.out) RF5.out
    go_upto_region 5 with (go_at_call 18; refine cPl.out.mono ?_; rintro e w6 ⟨rfl, q2⟩; have B6 := Hid.mkI q2; clear q2)
    refine on_w (motive := fun W => Code.wp _ _ _ _ W) (Q := fun W => W.heap[w6.heap.size]? = some (.cells #[.int .i64 0, .int .i64 y1, .int .i64 y2] 46 (0, 0)) ∧ Below w6.heap.size w6 W) ⟨heap_alloc_new w6 _, below_al _⟩ ?_
    generalize hgC : w6.heap.size = gC
    rintro W7 ⟨s1, s2⟩
    have RD := Hid.mkI s1
    have B7 : Hid (Below w6.heap.size w6 W7) := by unfold Hid; rw [hgC]; exact s2
    clear s1 s2 hgC
    have B57 : Hid (Below W5.heap.size W5 W7) := B6.out.trans (B7.out.mono B6.out.size)
    have B37 : Hid (Below W3.heap.size W3 W7) := B35.out.trans (B57.out.mono B35.out.size)
    have H7 : Hid (Below w.heap.size w W7) := H5.out.trans (B57.out.mono H5.out.size)
    have B17 : Hid (Below w1.heap.size w1 W7) := B2.out.trans ((BB.out.trans (B37.out.mono BB.out.size)).mono B2.out.size)
    have RA7 : Hid (W7.heap[gA]? = some (.cells #[.int .u64 0, .slice none 0 0, .slice none 0 0] 26 (0, 0))) := (B37.out.block gA (heap_lt RA.out)).trans RA.out
    have RB7 : Hid (W7.heap[gB]? = some (.cells #[.int .u64 0, .slice none 0 0, .slice none 0 0] 26 (0, 0))) := (B57.out.block gB (heap_lt RB.out)).trans RB.out
    have RC7 : Hid (W7.heap[gB + 1]? = some (.cells #[.int .i64 0, .int .i64 y1, .int .i64 y2] 46 (0, 0))) := (B57.out.block _ (heap_lt RC.out)).trans RC.out
    have HO7 : Hid (W7.ownsRow w.heap.size 5 1 (.slice (some ⟨gl, 0, none⟩) (n + 64) cl) (b ++ mks 64).length (bv (b ++ mks 64))) := own_below HO1.out B17.out
    have cKp : Hid (Calls Tryz.prog 19 #[.slice (some ⟨gl, 0, none⟩) (n + 64) cl, .slice a n cap] W7 fun e w' => e = .returned (.bool true) ∧ w' = W7) := kept_t b _ _ W7 (Byt.of_own HO7.out) (HV.out _ H7.out) HBL.out
    have HKW : Hid (∀ W, W = W7 ∨ W = W7.drew ∨ (∃ q, W = W7.drewN q) → Calls Tryz.prog 19 #[.slice (some ⟨gl, 0, none⟩) (n + 64) cl, .slice a n cap] W fun e w' => e = .returned (.bool true) ∧ w' = W) := fun W hW => by
      have e : Below W7.heap.size W7 W := by
        rcases hW with rfl | rfl | ⟨q, rfl⟩
        · exact Below.refl _ _
        · exact Below.drew (Below.refl _ _)
        · exact below_drewX (Below.refl _ _) q
      exact kept_t b _ _ W (Byt.of_own (own_below HO7.out e)) (HV.out _ (H7.out.trans (e.mono H7.out.size))) HBL.out
    have k0 := cell_of_row W7 gC 0 _ _ _ RD.out
    have k1 := cell_of_row W7 gC 1 _ _ _ RD.out
    have k2 := cell_of_row W7 gC 2 _ _ _ RD.out
    have m0 := cell_of_row W7 (gB + 1) 0 _ _ _ RC7.out
    have m1 := cell_of_row W7 (gB + 1) 1 _ _ _ RC7.out
    have m2 := cell_of_row W7 (gB + 1) 2 _ _ _ RC7.out
    have hnum : Hid (∀ W, Calls Tryz.prog 13 #[.int .i64 y2] W fun e w' => e = .returned (.int .i64 y2) ∧ w' = W) := fun W => num_c _ W
    --@QF
    go_quiet ((first | (go_at_call 13; exact Calls.quiet_of_same (hnum.out _)) | (go_at_call 19; exact Calls.quiet_of_same (HKW.out _ (by first | exact .inl rfl | exact .inr (.inl rfl) | exact .inr (.inr ⟨_, rfl⟩)))) | fail))
    --@PF
    go_upto_region 7 with fail
    refine on_w (motive := fun W => Code.wp _ _ _ _ W) (Q := fun W => Below W7.heap.size W7 W) (below_drewX (Below.refl _ _) _) ?_
    clear k0 k1 k2 m0 m1 m2
    intro W8 s1
    have B78 := Hid.mkI s1
    clear s1
    have HO8 : Hid (W8.ownsRow w.heap.size 5 1 (.slice (some ⟨gl, 0, none⟩) (n + 64) cl) (b ++ mks 64).length (bv (b ++ mks 64))) := own_below HO7.out B78.out
    have H8 : Hid (Below w.heap.size w W8) := H7.out.trans (B78.out.mono H7.out.size)
    have HCU : Hid (∃ cur : Array Value, W8.heap[gl]? = some (.cells cur 5 (0, 0)) ∧ n + 64 ≤ cur.size) := by
      rcases HO8.out.2 with ⟨h', _⟩ | ⟨g', cap', cur, h', h1, h2, h3, h4, h5, h6⟩
      · cases h'
      · simp only [Value.slice.injEq, Option.some.injEq, Addr.mk.injEq] at h'
        refine ⟨cur, by rw [h'.1.1]; exact h2, by omega⟩
    go_wp2
    go_loopw [10] (fun i wr => ∃ k : Nat, k ≤ n + 64 ∧ i = .int .i64 k ∧ Hid (∃ cur : Array Value, wr.heap[gl]? = some (.cells cur 5 (0, 0)) ∧ n + 64 ≤ cur.size) ∧ Hid (Oth gl W8 wr)) (fun i _ => n + 64 - (intOf i).toNat)
    case atStart => exact ⟨0, Nat.zero_le _, rfl, HCU, Oth.refl _ _⟩
    case round =>
      obtain ⟨k, hk, rfl, hcu, hx⟩ := hrel
      clear HCU
      by_cases hlt : k < n + 64
      · have hlt2 : (k : Int) < (n : Int) + 64 := by omega
        obtain ⟨cur, hcur, hsz⟩ := hcu.out
        obtain ⟨y, hy⟩ : ∃ y, cur[k]? = some y := ⟨_, Array.getElem?_eq_getElem (by omega)⟩
        have hce : wr.cell? ⟨gl, k, none⟩ = some y := (cell_of_row wr gl k _ _ _ hcur).trans hy
        have hfr := frozen_of_row wr gl k _ _ hcur
        have HRW := Hid.mkI hcur
        have HSZ := Hid.mkI hsz
        clear hcur hsz hy hcu
        have hkb : (k : Int) < 140737488355328 := by omega
        go_wp2
        go_roundw
        case rel => exact ⟨k + 1, by omega, by go_num, ⟨_, heap_setCell_same wr gl k _ _ _ HRW.out, by rw [Array.size_setIfInBounds]; exact HSZ.out⟩, hx.out.set k _⟩
        case measure => simp [intOf]; omega
      · have hz : ¬ (k : Int) < (n : Int) + 64 := by omega
        have hg1 : gl < w1.heap.size := HG2.out
        have s17 := B17.out.size
        have s78 := B78.out.size
        have hgA1 : gA ≠ gl := by have := HGA.out; have := B2.out.size; omega
        have hgB1 : gB ≠ gl := by have := HGB.out; have := B2.out.size; have := BB.out.size; have := B4.out.size; omega
        have ra : wr.heap[gA]? = some (.cells #[.int .u64 0, .slice none 0 0, .slice none 0 0] 26 (0, 0)) := (hx.out.block gA (Nat.lt_of_lt_of_le (heap_lt RA7.out) s78) hgA1).trans ((B78.out.block gA (heap_lt RA7.out)).trans RA7.out)
        have rb : wr.heap[gB]? = some (.cells #[.int .u64 0, .slice none 0 0, .slice none 0 0] 26 (0, 0)) := (hx.out.block gB (Nat.lt_of_lt_of_le (heap_lt RB7.out) s78) hgB1).trans ((B78.out.block gB (heap_lt RB7.out)).trans RB7.out)
        have a0 := cell_of_row wr gA 0 _ _ _ ra
        have b0 := cell_of_row wr gB 0 _ _ _ rb
        have a1 := cell_of_row wr gA 1 _ _ _ ra
        have b1 := cell_of_row wr gB 1 _ _ _ rb
        have a2 := cell_of_row wr gA 2 _ _ _ ra
        have b2 := cell_of_row wr gB 2 _ _ _ rb
        have cAl : Hid (Calls Tryz.prog 15 #[.agg #[.int .u64 0, .slice none 0 0, .slice none 0 0], .agg #[.int .u64 0, .slice none 0 0, .slice none 0 0]] wr fun e w' => e = .returned (.bool true) ∧ Below wr.heap.size wr w') := alike_nil wr
        have HBX : Hid (Below w.heap.size w wr) := hx.out.below H8.out HG1.out H8.out.size
        clear hlt ra rb
        go_wp2_with (go_at_call 15; refine cAl.out.mono ?_; rintro e w9 ⟨rfl, q⟩; have B9 := Hid.mkI q; clear q)
        go_ret
        exact ⟨rfl, HBX.out.trans (B9.out.mono HBX.out.size)⟩
end Go.Proofs.YtheeogbmljjbdaaGreatDoor
