/-
  Layer 16 (save): the laws' own functions: same, buses, alike, loose, kept.
-/
import Derived.Test.YtnlkamfoopikhaaHq
import Derived.Test.YtnlkamfoopikhaaCpe
namespace Go.Proofs.Ytnlkamfoopikhaa
set_option linter.unusedVariables false
set_option maxRecDepth 100000
open Go.ChangeShapes Go.WideShapes Go.ChangeAt Go.RowKit Go.Deep
theorem lsame_t (l : List Int) (u v : Value) (w : World) (hu : Byt w u l) (hv : Byt w v l) : Calls Try.prog 13 #[u, v] w fun e w' => e = .returned (.bool true) ∧ w' = w := by
  have k1 := hu.conv
  have k2 := hv.conv
  obtain ⟨a, c, e1, _⟩ := hu
  obtain ⟨b, d, e2, _⟩ := hv
  subst e1 e2
  generalize strOfNums l = s at *
  go_enter Try.func13, Try.ntmps13
  go_wp2
  go_ret
  exact ⟨rfl, rfl⟩
set_option maxHeartbeats 4000000 in
theorem buses_t (S : St) (vr vi vo ur ui uo : Value) (w : World) (ha : Bs S vr vi vo w) (hb : Bs S ur ui uo w) :
    Calls Try.prog 34 #[.agg (stc S vr vi vo), .agg (stc S ur ui uo)] w fun e w' => e = .returned (.bool true) ∧ Below w.heap.size w w' := by
  have HB : Hid (∀ o o', Below w.heap.size w ((w.alloc o).alloc o')) := fun o o' => ((Below.refl _ _).alloc (Nat.le_refl _) o).alloc (by simp) o'
  have S1 : Hid (∀ o o', Calls Try.prog 13 #[vr, ur] ((w.alloc o).alloc o') fun e w' => e = .returned (.bool true) ∧ w' = (w.alloc o).alloc o') := fun o o' => lsame_t S.ram vr ur _ (ha.r.later (HB.out o o') rfl) (hb.r.later (HB.out o o') rfl)
  have S2 : Hid (∀ o o', Calls Try.prog 13 #[vi, ui] ((w.alloc o).alloc o') fun e w' => e = .returned (.bool true) ∧ w' = (w.alloc o).alloc o') := fun o o' => lsame_t S.inp vi ui _ (ha.i.later (HB.out o o') rfl) (hb.i.later (HB.out o o') rfl)
  have S3 : Hid (∀ o o', Calls Try.prog 13 #[vo, uo] ((w.alloc o).alloc o') fun e w' => e = .returned (.bool true) ∧ w' = (w.alloc o).alloc o') := fun o o' => lsame_t S.out vo uo _ (ha.o.later (HB.out o o') rfl) (hb.o.later (HB.out o o') rfl)
  clear ha hb
  unfold stc
  go_enter Try.func34, Try.ntmps34
  have HF1 : Hid True := trivial
  have HF2 : Hid True := trivial
  go_wp2_with (first | (go_at_call 13; clear HF1; refine (S1.out _ _).mono ?_; rintro e w5 ⟨rfl, hw5⟩; subst hw5) | (go_at_call 13; clear HF2; refine (S2.out _ _).mono ?_; rintro e w5 ⟨rfl, hw5⟩; subst hw5) | (go_at_call 13; refine (S3.out _ _).mono ?_; rintro e w5 ⟨rfl, hw5⟩; subst hw5))
  go_ret
  exact ⟨rfl, HB.out _ _⟩
theorem eqG_cpu (x y : Operand) (u v : Array Value) (w : World) : (eqGuard .eql 31 x y (.agg u) (.agg v)).run Try.prog w = .ok () w := by kernel_rfl
theorem wpList_eql_agg {ops : Array Oper} {rest : List Oper} {o : Oper} {a : Act} {w : World} {Q : Exit → Act → World → Prop} (hw : Region.wanted o (yielded ops a.tmps) = true) (t t2 : TypeId) (x y : Operand) (ho : o.op = .binOp .eql t x y t2)
    (u v : Array Value) (hx : a.eval x = .agg u) (hy : a.eval y = .agg v) (he : (Op.equalIn 10000 t (.agg u) (.agg v)).run Try.prog w = .ok true w) (hg : (eqGuard .eql t x y (.agg u) (.agg v)).run Try.prog w = .ok () w)
    (h : wpList Try.prog ops Q rest (a.put o.dst (.bool true)) w) : wpList Try.prog ops Q (o :: rest) a w :=
  BigFrame.wpList_want hw fun _ hK => by
    unfold Oper.wp execOp
    simp only [ho, hx, hy]
    go_simp
    exact hK _ _ h
theorem wpList_load_aggG {P : Program} {ops : Array Oper} {rest : List Oper} {o : Oper} {a : Act} {w : World} {Q : Exit → Act → World → Prop} (hw : Region.wanted o (yielded ops a.tmps) = true) (ty : TypeId) (x : Operand) (ho : o.op = .load ty x)
    (g off : Nat) (hx : a.eval x = .pointer (some ⟨g, off, none⟩)) (cs : Array Value) (d : TypeDesc) (hc : ∀ j v, cs[j]? = some v → w.cell? ⟨g, off + j, none⟩ = some v)
    (hu : P.underlying ty = some d) (hd : (match d with | .struct _ | .array _ _ => true | _ => false) = true) (hi : (P.info? ty).map (·.size) = some cs.size)
    (h : wpList P ops Q rest (a.put o.dst (.agg cs)) w) : wpList P ops Q (o :: rest) a w :=
  BigFrame.wpList_want hw fun _ hK => by
    unfold Oper.wp execOp
    simp only [ho, hx, Instr.loadAt, Instr.sureAddr, Sem.run_bind, Sem.run_pure, Result.andThen_ok, run_load_agg w ty g off cs d hc hu hd hi]
    exact hK _ _ h
theorem info_cpu7 (K : Cp) : (Try.prog.info? 31).map (·.size) = some (cpc K).size := by rw [cpc_size]; kernel_rfl
set_option maxHeartbeats 4000000 in
theorem alike_t (K : Cp) (S : St) (vr vi vo ur ui uo : Value) (w : World) (ha : Bs S vr vi vo w) (hb : Bs S ur ui uo w) :
    Calls Try.prog 15 #[.agg (whc K S vr vi vo), .agg (whc K S ur ui uo)] w fun e w' => e = .returned (.bool true) ∧ Below w.heap.size w w' := by
  have HB : Hid (∀ o o', Below w.heap.size w ((w.alloc o).alloc o')) := fun o o' => ((Below.refl _ _).alloc (Nat.le_refl _) o).alloc (by simp) o'
  obtain ⟨W0, hW0, r0, r1, b0, s0⟩ := start2 w (whc K S vr vi vo) (whc K S ur ui uo) 37 37
  have C0 : Hid (∀ j v, (cpc K)[j]? = some v → W0.cell? ⟨w.heap.size, 0 + j, none⟩ = some v) := fun j v hv => by rw [r0.out.cell]; exact whc_c K S _ _ _ j v hv
  have C1 : Hid (∀ j v, (cpc K)[j]? = some v → W0.cell? ⟨w.heap.size + 1, 0 + j, none⟩ = some v) := fun j v hv => by rw [r1.out.cell]; exact whc_c K S _ _ _ j v hv
  have D0 : Hid (∀ j v, (stc S vr vi vo)[j]? = some v → W0.cell? ⟨w.heap.size, 82 + j, none⟩ = some v) := fun j v hv => by rw [r0.out.cell]; exact whc_b K S _ _ _ j v hv
  have D1 : Hid (∀ j v, (stc S ur ui uo)[j]? = some v → W0.cell? ⟨w.heap.size + 1, 82 + j, none⟩ = some v) := fun j v hv => by rw [r1.out.cell]; exact whc_b K S _ _ _ j v hv
  have HIC := Hid.mk' (info_cpu7 K)
  have HI0 := Hid.mk' (info_bst S vr vi vo)
  have HI1 := Hid.mk' (info_bst S ur ui uo)
  have HBU := Hid.mk' (buses_t S vr vi vo ur ui uo W0 (ha.later b0.out) (hb.later b0.out))
  have HEQ := Hid.mk' (eq_cpu W0 K)
  have HEG := Hid.mk' (fun x y => eqG_cpu x y (cpc K) (cpc K) W0)
  have HB0 := Hid.mk' b0.out
  clear ha hb b0 r0 r1
  generalize whc K S vr vi vo = VA at *
  generalize whc K S ur ui uo = VB at *
  generalize stc S vr vi vo = SA at *
  generalize stc S ur ui uo = SB at *
  generalize cpc K = CK at *
  go_enter Try.func15, Try.ntmps15
  go_upto_region 1 with fail
  clear hW0 s0
  go_wp2_with (first | (refine wpList_load_agg (by rfl) 31 _ (by rfl) w.heap.size 0 (by rfl) CK _ C0.out Try.underlying31 (by rfl) HIC.out ?_) | (refine wpList_load_agg (by rfl) 31 _ (by rfl) (w.heap.size + 1) 0 (by rfl) CK _ C1.out Try.underlying31 (by rfl) HIC.out ?_) | (refine wpList_eql_agg (by rfl) 31 _ _ _ (by rfl) CK CK (by rfl) (by rfl) HEQ.out (HEG.out _ _) ?_) | (refine wpList_load_aggG (by rfl) 35 _ (by rfl) w.heap.size 82 (by rfl) SA _ D0.out Try.underlying35 (by rfl) HI0.out ?_) | (refine wpList_load_aggG (by rfl) 35 _ (by rfl) (w.heap.size + 1) 82 (by rfl) SB _ D1.out Try.underlying35 (by rfl) HI1.out ?_) | (go_at_call 34; refine HBU.out.mono ?_; rintro e w5 ⟨rfl, hb5⟩; have HB5 := Hid.mk' hb5; clear hb5))
  go_ret
  exact ⟨rfl, HB0.out.trans (HB5.out.mono HB0.out.size)⟩
end Go.Proofs.Ytnlkamfoopikhaa
