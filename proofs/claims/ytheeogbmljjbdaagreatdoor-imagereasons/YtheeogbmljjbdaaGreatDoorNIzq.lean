/-
  ImageReasons: errors.Is of a fault and its reason; the walk.
-/
import Derived.Test.YtheeogbmljjbdaaGreatDoorN42
import Derived.Test.YtheeogbmljjbdaaGreatDoorN27
import Derived.LaidEql
import Derived.Stop.Asserts
import Derived.RowKitTokens
namespace Go.Proofs.YtheeogbmljjbdaaGreatDoor
set_option linter.unusedVariables false
set_option maxRecDepth 100000
open Go.ChangeShapes Go.WideShapes Go.ChangeAt Go.RowKit Go.Deep Go.Extern.Stop Go.Stop Go.Extern
--@WHOLE
theorem Tryz.isTypeOfE (v : Value) (w : World) : (Extern.ReflectliteType.typeOf #[.iface 28 v]).run Tryz.prog w = .ok (.iface 124 (.agg #[.pointer (some ⟨6, 28, none⟩)])) w := by kernel_rfl
def cmpF : Array Value → Sem Value := Extern.ReflectliteType.method fun t => do Rtype.noPackHeld "Comparable" t; pure (.bool (← typeInfo t).comparable)
theorem Tryz.isComparableE (w : World) : (cmpF #[.agg #[.pointer (some ⟨6, 28, none⟩)]]).run Tryz.prog w = .ok (.bool true) w := by kernel_rfl
theorem Tryz.isMethodComparable (v : Value) (w : World) : (Go.method 352 124 v "Comparable").run Tryz.prog w = .ok (173, v) w := by kernel_rfl
theorem Tryz.isCompE : (Tryz.prog.info? 28).map (·.comparable) = some true := by kernel_rfl
theorem Tryz.noIsF (v : Value) (xT : TypeId) (w : World) : (Instr.typeAssert (.iface 79 v) xT 126 true).run Tryz.prog w = .ok (.tuple #[.nilIface, .bool false]) w := run_typeAssert_lacksB Tryz.underlying126 (by kernel_rfl) (by kernel_rfl) v xT w
theorem Tryz.hasUnwrapF (v : Value) (xT : TypeId) (w : World) : (Instr.typeAssert (.iface 79 v) xT 129 true).run Tryz.prog w = .ok (.tuple #[.iface 79 v, .bool true]) w := run_typeAssert_hasB Tryz.underlying129 (by kernel_rfl) v xT w
theorem Tryz.methodUnwrap (v : Value) (w : World) : (Go.method 352 79 v "Unwrap").run Tryz.prog w = .ok (167, v) w := by kernel_rfl
theorem eq_errno (y : Int) (w : World) : (binOp .eql 36 (.iface 28 (.int .i64 y)) (.iface 28 (.int .i64 y))).run Tryz.prog w = .ok (.bool true) w := by
  obtain ⟨i, hi, hc⟩ := Option.map_eq_some_iff.1 Tryz.isCompE
  have h : ∀ d : Nat, (Op.equalIn (d + 2) 36 (.iface 28 (.int .i64 y)) (.iface 28 (.int .i64 y))).run Tryz.prog w = .ok true w := fun d => by
    simp [Op.equalIn, run_underlying Tryz.underlying36, run_underlying Tryz.underlying28, typeInfo, hi, hc]
  simp only [binOp]
  simp [Op.equal, Op.maxDepth, h 9998]
theorem unwrap_c (g : Nat) (x y : Int) (w : World) (hg : w.heap[g]? = some (.cells #[.int .i64 0, .int .i64 x, .int .i64 y] 46 (0, 0))) :
    Calls Tryz.prog 167 #[.pointer (some ⟨g, 0, none⟩)] w fun e w' => e = .returned (.iface 28 (.int .i64 y)) ∧ w' = w := by
  have h2 := cell_of_row w g 2 _ _ _ hg
  clear hg
  go_enter Tryz.func167, Tryz.ntmps167
  go_wp2
  go_ret
  exact ⟨rfl, rfl⟩
set_option maxHeartbeats 4000000 in
theorem is_c (g : Nat) (x y : Int) (w : World) (hg : w.heap[g]? = some (.cells #[.int .i64 0, .int .i64 x, .int .i64 y] 46 (0, 0))) :
    Calls Tryz.prog 41 #[.iface 79 (.pointer (some ⟨g, 0, none⟩)), .iface 28 (.int .i64 y), .bool true] w fun e w' => e = .returned (.bool true) ∧ w' = w := by
  have cU : Hid (Calls Tryz.prog 167 #[.pointer (some ⟨g, 0, none⟩)] w fun e w' => e = .returned (.iface 28 (.int .i64 y)) ∧ w' = w) := unwrap_c g x y w hg
  have nF := Tryz.noIsF
  have uF := Tryz.hasUnwrapF
  have mU := Tryz.methodUnwrap
  have heq := eq_errno y
  have hty : ∀ W, (binOp .eql 36 (.iface 79 (.pointer (some ⟨g, 0, none⟩))) (.iface 28 (.int .i64 y))).run Tryz.prog W = .ok (.bool false) W := fun W => run_eql_iface_types (P := Tryz.prog) 79 28 (.pointer (some ⟨g, 0, none⟩)) (.int .i64 y) Tryz.underlying36 (by decide) W
  clear hg
  go_enter Tryz.func41, Tryz.ntmps41
  go_wp2
  refine wp_loop_rounds 2 ?_
  rw [rounds_succ]
  --@I1
  go_wp2_with (go_at_call 167; refine cU.out.mono ?_; rintro e wz ⟨rfl, hwz⟩; rw [hwz]; clear hwz)
  --@I2
  rw [rounds_succ]
  go_wp2
  go_ret
  exact ⟨rfl, rfl⟩
set_option maxHeartbeats 4000000 in
theorem isE_c (g : Nat) (x y : Int) (w : World) (hg : w.heap[g]? = some (.cells #[.int .i64 0, .int .i64 x, .int .i64 y] 46 (0, 0))) :
    Calls Tryz.prog 20 #[.iface 79 (.pointer (some ⟨g, 0, none⟩)), .iface 28 (.int .i64 y)] w fun e w' => e = .returned (.bool true) ∧ w' = w := by
  have cI : Hid (Calls Tryz.prog 41 #[.iface 79 (.pointer (some ⟨g, 0, none⟩)), .iface 28 (.int .i64 y), .bool true] w fun e w' => e = .returned (.bool true) ∧ w' = w) := is_c g x y w hg
  have h8 := @run_callFunc_extern Tryz.prog 40 _ Extern.ReflectliteType.typeOf Tryz.func40 (by kernel_rfl) (by kernel_rfl) (by kernel_rfl) (by kernel_rfl)
  have h32 := @run_callFunc_extern Tryz.prog 173 _ cmpF Tryz.func173 (by kernel_rfl) (by kernel_rfl) (by kernel_rfl) (by kernel_rfl)
  have tT := Tryz.isTypeOfE
  have cT := Tryz.isComparableE
  have mR := Tryz.isMethodComparable
  have n1 : ∀ W, (binOp .eql 36 (.iface 79 (.pointer (some ⟨g, 0, none⟩))) .nilIface).run Tryz.prog W = .ok (.bool false) W := fun W => by kernel_rfl
  have n2 : ∀ W, (binOp .eql 36 (.iface 28 (.int .i64 y)) .nilIface).run Tryz.prog W = .ok (.bool false) W := fun W => by kernel_rfl
  clear hg
  go_enter Tryz.func20, Tryz.ntmps20
  --@I3
  go_wp2_with (go_at_call 41; refine cI.out.mono ?_; rintro e wz ⟨rfl, hwz⟩; rw [hwz]; clear hwz)
  go_ret
  exact ⟨rfl, rfl⟩
set_option maxHeartbeats 8000000 in
theorem reasons_c {b : List Int} (hB : AllB b) (hbl : b.length ≤ 140737488351232) (a : Option Addr) (cap : Nat) (w : World) (hv : Byt w (.slice a b.length cap) b) (hT : Tabs w) (hE : EtW w) :
    Calls Tryz.prog 8 #[.slice a b.length cap] w fun e w' => e = .returned (.bool true) ∧ Below w.heap.size w w' := by
  have HV : Hid (∀ w', Below w.heap.size w w' → Byt w' (.slice a b.length cap) b) := fun w' hb => hv.later hb rfl
  have HTB : Hid (∀ w', Below w.heap.size w w' → Tabs w') := fun w' hb => hT.below hb rfl
  have HET : Hid (∀ w', Below w.heap.size w w' → EtW w') := fun w' hb => hE.below hb rfl
  have cRd : Hid (∀ wx vb, Below w.heap.size w wx → Byt wx vb b → Calls Tryz.prog 14 #[vb] wx fun e w' => RdP b wx e w') := fun wx vb hx hv => read_c hB (by omega) vb wx hv (hT.below hx rfl) (hE.below hx rfl)
  have cRf : Hid (∀ wx, Below w.heap.size w wx → Calls Tryz.prog 17 #[.slice a b.length cap] wx fun e w' => RfP b wx e w') := fun wx hx => rread_c hB (by omega) _ wx (HV.out wx hx) (HTB.out wx hx)
  have hnum : Hid (∀ z W, Calls Tryz.prog 13 #[.int .i64 z] W fun e w' => e = .returned (.int .i64 z) ∧ w' = W) := fun z W => num_c z W
  have HO2 : Hid (Owb w.heap.size (w.alloc (.cells #[] 5)) (.slice (some ⟨w.heap.size, 0, none⟩) 0 0) []) := World.ownsRow_made w #[] 0 (Nat.le_refl _) (Nat.zero_le _) rfl
  have HV2 : Hid (Byt (w.alloc (.cells #[] 5)) (.slice a b.length cap) b) := HV.out _ (below_al _)
  have HF2 : Hid (Fr w.heap.size w (w.alloc (.cells #[] 5))) := (Fr.refl _ _).alloc (Nat.le_refl _) _
  have HLB : Hid (([] : List Int).length + b.length ≤ 140737488355328) := by unfold Hid; simp; omega
  obtain ⟨B, hBB⟩ : ∃ B, B = w.heap.size := ⟨_, rfl⟩
  have HB0 := Hid.mkI hBB
  have hBs : B ≤ (w.alloc (.cells #[] 5)).heap.size := by rw [hBB]; simp
  have HO3 : Hid (Owb B (w.alloc (.cells #[] 5)) (.slice (some ⟨w.heap.size, 0, none⟩) 0 0) []) := by unfold Hid; rw [hBB]; exact HO2.out
  rw [← hBB] at HF2
  clear hBB HO2
  cases hF : rdF b with
  | none =>
    have cR : Hid (∀ wx vb, Below w.heap.size w wx → Byt wx vb b → Calls Tryz.prog 14 #[vb] wx fun e w' => ∃ um un uc vm vn vc, e = .returned (.tuple #[.agg #[.int .u64 ((vl b 24 8 : Nat) : Int), .slice um un uc, .slice vm vn vc], .nilIface]) ∧ Below wx.heap.size wx w') := fun wx vb hx hv => (cRd.out wx vb hx hv).mono fun e w' hq => by
      rcases hq with ⟨_, u, v, L, rfl, q1, q2⟩ | ⟨F, g, q, _⟩
      · obtain ⟨um, un, uc, rfl⟩ := own_slice q1.segs
        obtain ⟨vm, vn, vc, rfl⟩ := own_slice q1.syms
        exact ⟨um, un, uc, vm, vn, vc, rfl, q2⟩
      · rw [hF] at q; cases q
    have cS : Hid (∀ wx, Below w.heap.size w wx → Calls Tryz.prog 17 #[.slice a b.length cap] wx fun e w' => ∃ um un uc vm vn vc, e = .returned (.tuple #[.agg #[.int .u64 ((vl b 24 8 : Nat) : Int), .slice um un uc, .slice vm vn vc], .agg #[.int .i64 0, .int .i64 0, .int .i64 0]]) ∧ Below wx.heap.size wx w') := fun wx hx => (cRf.out wx hx).mono fun e w' hq => by
      rcases hq with ⟨_, u, v, L, rfl, q1, q2⟩ | ⟨F, q, _⟩
      · obtain ⟨um, un, uc, rfl⟩ := own_slice q1.segs
        obtain ⟨vm, vn, vc, rfl⟩ := own_slice q1.syms
        exact ⟨um, un, uc, vm, vn, vc, rfl, q2⟩
      · rw [hF] at q; cases q
    have cFi : Hid (∀ wx, Below w.heap.size w wx → Calls Tryz.prog 9 #[] wx fun e w' => e = .returned (.bool true) ∧ Below wx.heap.size wx w') := fun wx hx => first_c wx (HTB.out _ hx) (HET.out _ hx)
    have hnil : ∀ w : World, (binOp .eql 36 .nilIface .nilIface).run Tryz.prog w = .ok (.bool true) w := fun w => by kernel_rfl
    have heg : ∀ (w : World), (eqGuard .eql 36 (.tmp 23) (.const .nilIface) .nilIface .nilIface).run Tryz.prog w = .ok () w := fun w => by kernel_rfl
    generalize ((vl b 24 8 : Nat) : Int) = EN at cR cS
    obtain ⟨n, hn⟩ : ∃ n, n = b.length := ⟨_, rfl⟩
    rw [← hn] at HV2 cS ⊢
    clear hn HV
    clear hv hT hE hF hB hbl cRd cRf
    go_enter Tryz.func8, Tryz.ntmps8
    go_upto_region 2 with (first | (at_builtin; refine appZ (by rfl) _ _ (by rfl) B _ _ [] b (by rfl) HO3.out (by rfl) HV2.out HLB.out hBs ?_; intro v1 W1 ho1 hf1; have HY1 := Hid.mkI (Byt.of_own ho1); have H1 : Hid (Below w.heap.size w W1) := (by have q := (HF2.out.trans hf1).b; rw [HB0.out] at q; exact q); clear ho1 hf1) | (go_at_call 14; refine (cR.out _ _ H1.out (by exact HY1.out)).mono ?_; rintro e w3 ⟨um, un, uc, vm, vn, vc, rfl, q2⟩; have H3 : Hid (Below w.heap.size w w3) := H1.out.trans (q2.mono H1.out.size); clear q2))
    clear cR HY1 H1 HO3 HV2 HF2 hBs
    --YtheeogbmljjbdaaGreatDoor0
    refine on_w (motive := fun W => Code.wp _ _ _ _ W) (Q := fun W => Below w3.heap.size w3 W) (below_al _) ?_
    intro W4 s2
    have H4 : Hid (Below w.heap.size w W4) := H3.out.trans (s2.mono H3.out.size)
    clear s2
    go_upto_region 3 with (go_at_call 17; refine (cS.out _ H4.out).mono ?_; rintro e w4 ⟨xm, xn, xc, ym, yn, yc, rfl, q2⟩; have H5 : Hid (Below w.heap.size w w4) := H4.out.trans (q2.mono H4.out.size); clear q2)
    --YtheeogbmljjbdaaGreatDoor1
    refine on_w (motive := fun W => Code.wp _ _ _ _ W) (Q := fun W => W.heap[w4.heap.size + 1]? = some (.cells #[.int .i64 0, .int .i64 0, .int .i64 0] 46 (0, 0)) ∧ Below w4.heap.size w4 W) ⟨heap_alloc2_new w4 _ _, ((Below.refl _ _).alloc (Nat.le_refl _) _).alloc (by simp) _⟩ ?_
    generalize hgB : w4.heap.size = gB
    rintro W6 ⟨s1, s2⟩
    have c2 := cell_of_row W6 (gB + 1) 2 _ _ _ s1
    have H6 : Hid (Below w.heap.size w W6) := H5.out.trans (s2.mono (by rw [← hgB]; exact H5.out.size))
    clear s1 s2 hgB
    go_wp2_with (first | (go_at_call 13; refine (hnum.out _ _).mono ?_; rintro e wz ⟨rfl, hwz⟩; rw [hwz]; clear hwz) | (go_at_call 9; refine (cFi.out _ H6.out).mono ?_; rintro e w7 ⟨rfl, q1⟩; have H7 : Hid (Below w.heap.size w w7) := H6.out.trans (q1.mono H6.out.size); clear q1))
    go_ret
    exact ⟨rfl, H7.out⟩
  | some F =>
    have hF2 := wy_rd b F hF
    have cR : Hid (∀ wx vb, Below w.heap.size w wx → Byt wx vb b → Calls Tryz.prog 14 #[vb] wx fun e w' => ∃ g, e = .returned (.tuple #[.agg #[.int .u64 0, .slice none 0 0, .slice none 0 0], .iface 79 (.pointer (some ⟨g, 0, none⟩))]) ∧ w'.heap[g]? = some (.cells #[.int .i64 0, .int .i64 F.1, .int .i64 F.2] 46 (0, 0)) ∧ Below wx.heap.size wx w') := fun wx vb hx hv => (cRd.out wx vb hx hv).mono fun e w' hq => by
      rcases hq with ⟨q, _⟩ | ⟨F', g, q, r1, _, r2, r3⟩
      · rw [hF] at q; cases q
      · rw [hF] at q; cases q; exact ⟨g, r1, r2, r3⟩
    have cS : Hid (∀ wx, Below w.heap.size w wx → Calls Tryz.prog 17 #[.slice a b.length cap] wx fun e w' => e = .returned (.tuple #[.agg #[.int .u64 0, .slice none 0 0, .slice none 0 0], .agg #[.int .i64 0, .int .i64 F.1, .int .i64 F.2]]) ∧ Below wx.heap.size wx w') := fun wx hx => (cRf.out wx hx).mono fun e w' hq => by
      rcases hq with ⟨q, _⟩ | ⟨F', q, r⟩
      · rw [hF] at q; cases q
      · rw [hF] at q; cases q; exact r
    obtain ⟨y1, hy1⟩ : ∃ y1 : Int, y1 = (F.1 : Int) := ⟨_, rfl⟩
    obtain ⟨y2, hy2⟩ : ∃ y2 : Int, y2 = (F.2 : Int) := ⟨_, rfl⟩
    rw [← hy1, ← hy2] at cR cS
    have hy2b : (y2 == 0) = false := by rw [beq_eq_false_iff_ne, hy2]; omega
    obtain ⟨n, hn⟩ : ∃ n, n = b.length := ⟨_, rfl⟩
    rw [← hn] at HV2 cS ⊢
    clear hn HV
    clear hv hT hE hF hB hbl cRd cRf hy1 hy2 hF2
    go_enter Tryz.func8, Tryz.ntmps8
    go_upto_region 2 with (first | (at_builtin; refine appZ (by rfl) _ _ (by rfl) B _ _ [] b (by rfl) HO3.out (by rfl) HV2.out HLB.out hBs ?_; intro v1 W1 ho1 hf1; have HY1 := Hid.mkI (Byt.of_own ho1); have H1 : Hid (Below w.heap.size w W1) := (by have q := (HF2.out.trans hf1).b; rw [HB0.out] at q; exact q); clear ho1 hf1) | (go_at_call 14; refine (cR.out _ _ H1.out (by exact HY1.out)).mono ?_; rintro e w3 ⟨gf, rfl, q1, q2⟩; have RF3 := Hid.mkI q1; have H3 : Hid (Below w.heap.size w w3) := H1.out.trans (q2.mono H1.out.size); clear q1 q2))
    clear cR HY1 H1 HO3 HV2 HF2 hBs
    --@S0
    refine on_w (motive := fun W => Code.wp _ _ _ _ W) (Q := fun W => Below w3.heap.size w3 W) (below_al _) ?_
    intro W4 s2
    have H4 : Hid (Below w.heap.size w W4) := H3.out.trans (s2.mono H3.out.size)
    have RF4 : Hid (W4.heap[gf]? = some (.cells #[.int .i64 0, .int .i64 y1, .int .i64 y2] 46 (0, 0))) := (s2.block gf (heap_lt RF3.out)).trans RF3.out
    clear s2 RF3
    go_upto_region 3 with (go_at_call 17; refine (cS.out _ H4.out).mono ?_; rintro e w4 ⟨rfl, q2⟩; have H5 : Hid (Below w.heap.size w w4) := H4.out.trans (q2.mono H4.out.size); have RF5 : Hid (w4.heap[gf]? = some (.cells #[.int .i64 0, .int .i64 y1, .int .i64 y2] 46 (0, 0))) := (q2.block gf (heap_lt RF4.out)).trans RF4.out; clear q2)
    --@S1
    refine on_w (motive := fun W => Code.wp _ _ _ _ W) (Q := fun W => W.heap[w4.heap.size + 1]? = some (.cells #[.int .i64 0, .int .i64 y1, .int .i64 y2] 46 (0, 0)) ∧ Below w4.heap.size w4 W) ⟨heap_alloc2_new w4 _ _, ((Below.refl _ _).alloc (Nat.le_refl _) _).alloc (by simp) _⟩ ?_
    generalize hgB : w4.heap.size = gB
    rintro W6 ⟨s1, s2⟩
    have c2 := cell_of_row W6 (gB + 1) 2 _ _ _ s1
    have H6 : Hid (Below w.heap.size w W6) := H5.out.trans (s2.mono (by rw [← hgB]; exact H5.out.size))
    have cIs : Hid (Calls Tryz.prog 20 #[.iface 79 (.pointer (some ⟨gf, 0, none⟩)), .iface 28 (.int .i64 y2)] W6 fun e w' => e = .returned (.bool true) ∧ w' = W6) := isE_c gf y1 y2 W6 ((s2.block gf (by rw [← hgB]; exact heap_lt RF5.out)).trans RF5.out)
    clear s1 s2 hgB RF5 RF4
    go_wp2_with (first | (go_at_call 13; refine (hnum.out _ _).mono ?_; rintro e wz ⟨rfl, hwz⟩; rw [hwz]; clear hwz) | (go_at_call 20; refine cIs.out.mono ?_; rintro e wz ⟨rfl, hwz⟩; rw [hwz]; clear hwz))
    go_ret
    exact ⟨rfl, H6.out⟩
end Go.Proofs.YtheeogbmljjbdaaGreatDoor
