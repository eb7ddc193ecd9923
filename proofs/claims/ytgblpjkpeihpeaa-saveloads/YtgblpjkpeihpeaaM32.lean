/-
  Hw Hx Hd.
-/
import Derived.Test.YtgblpjkpeihpeaaM30
import Derived.Test.YtgblpjkpeihpeaaM10
import Derived.Test.YtgblpjkpeihpeaaM13
namespace Go.Proofs.Ytgblpjkpeihpeaa
set_option linter.unusedVariables false
set_option maxRecDepth 100000
open Go.ChangeShapes Go.WideShapes Go.ChangeAt Go.RowKit Go.Deep
theorem lsame_t (l : List Int) (u v : Value) (w : World) (hu : Byt w u l) (hv : Byt w v l) : Calls Try.prog 13 #[u, v] w fun e w' => e = .returned (.bool true) ∧ w' = w := by
  have k1 := hu.conv
  have k2 := hv.conv
  obtain ⟨a, c, e1, _⟩ := hu
  obtain ⟨b, d, e2, _⟩ := hv
  subst e1 e2
  generalize strOfNums l = s at *
  go_enter Try.func13, Try.ntmps13
  go_wp2
  go_ret
  exact ⟨rfl, rfl⟩
set_option maxHeartbeats 4000000 in
theorem buses_t (S : St) (vr vi vo ur ui uo : Value) (w : World) (ha : Bs S vr vi vo w) (hb : Bs S ur ui uo w) :
    Calls Try.prog 34 #[.agg (stc S vr vi vo), .agg (stc S ur ui uo)] w fun e w' => e = .returned (.bool true) ∧ Below w.heap.size w w' := by
  have HB : Hid (∀ o o', Below w.heap.size w ((w.alloc o).alloc o')) := fun o o' => ((Below.refl _ _).alloc (Nat.le_refl _) o).alloc (by simp) o'
  have S1 : Hid (∀ o o', Calls Try.prog 13 #[vr, ur] ((w.alloc o).alloc o') fun e w' => e = .returned (.bool true) ∧ w' = (w.alloc o).alloc o') := fun o o' => lsame_t S.ram vr ur _ (ha.r.later (HB.out o o') rfl) (hb.r.later (HB.out o o') rfl)
  have S2 : Hid (∀ o o', Calls Try.prog 13 #[vi, ui] ((w.alloc o).alloc o') fun e w' => e = .returned (.bool true) ∧ w' = (w.alloc o).alloc o') := fun o o' => lsame_t S.inp vi ui _ (ha.i.later (HB.out o o') rfl) (hb.i.later (HB.out o o') rfl)
  have S3 : Hid (∀ o o', Calls Try.prog 13 #[vo, uo] ((w.alloc o).alloc o') fun e w' => e = .returned (.bool true) ∧ w' = (w.alloc o).alloc o') := fun o o' => lsame_t S.out vo uo _ (ha.o.later (HB.out o o') rfl) (hb.o.later (HB.out o o') rfl)
  clear ha hb
  unfold stc
  go_enter Try.func34, Try.ntmps34
  have HF1 : Hid True := trivial
  have HF2 : Hid True := trivial
  go_wp2_with (first | (go_at_call 13; clear HF1; refine (S1.out _ _).mono ?_; rintro e w5 ⟨rfl, hw5⟩; subst hw5) | (go_at_call 13; clear HF2; refine (S2.out _ _).mono ?_; rintro e w5 ⟨rfl, hw5⟩; subst hw5) | (go_at_call 13; refine (S3.out _ _).mono ?_; rintro e w5 ⟨rfl, hw5⟩; subst hw5))
  go_ret
  exact ⟨rfl, HB.out _ _⟩
theorem eqG_cpu (x y : Operand) (u v : Array Value) (w : World) : (eqGuard .eql 31 x y (.agg u) (.agg v)).run Try.prog w = .ok () w := by kernel_rfl
theorem wpList_eql_agg {ops : Array Oper} {rest : List Oper} {o : Oper} {a : Act} {w : World} {Q : Exit → Act → World → Prop} (hw : Region.wanted o (yielded ops a.tmps) = true) (t t2 : TypeId) (x y : Operand) (ho : o.op = .binOp .eql t x y t2)
    (u v : Array Value) (hx : a.eval x = .agg u) (hy : a.eval y = .agg v) (he : (Op.equalIn 10000 t (.agg u) (.agg v)).run Try.prog w = .ok true w) (hg : (eqGuard .eql t x y (.agg u) (.agg v)).run Try.prog w = .ok () w)
    (h : wpList Try.prog ops Q rest (a.put o.dst (.bool true)) w) : wpList Try.prog ops Q (o :: rest) a w :=
  BigFrame.wpList_want hw fun _ hK => by
    unfold Oper.wp execOp
    simp only [ho, hx, hy]
    go_simp
    exact hK _ _ h
theorem wpList_load_aggG {P : Program} {ops : Array Oper} {rest : List Oper} {o : Oper} {a : Act} {w : World} {Q : Exit → Act → World → Prop} (hw : Region.wanted o (yielded ops a.tmps) = true) (ty : TypeId) (x : Operand) (ho : o.op = .load ty x)
    (g off : Nat) (hx : a.eval x = .pointer (some ⟨g, off, none⟩)) (cs : Array Value) (d : TypeDesc) (hc : ∀ j v, cs[j]? = some v → w.cell? ⟨g, off + j, none⟩ = some v)
    (hu : P.underlying ty = some d) (hd : (match d with | .struct _ | .array _ _ => true | _ => false) = true) (hi : (P.info? ty).map (·.size) = some cs.size)
    (h : wpList P ops Q rest (a.put o.dst (.agg cs)) w) : wpList P ops Q (o :: rest) a w :=
  BigFrame.wpList_want hw fun _ hK => by
    unfold Oper.wp execOp
    simp only [ho, hx, Instr.loadAt, Instr.sureAddr, Sem.run_bind, Sem.run_pure, Result.andThen_ok, run_load_agg w ty g off cs d hc hu hd hi]
    exact hK _ _ h
theorem info_cpu7 (K : Cp) : (Try.prog.info? 31).map (·.size) = some (cpc K).size := by rw [cpc_size]; kernel_rfl
set_option maxHeartbeats 4000000 in
theorem alike_t (K : Cp) (S : St) (vr vi vo ur ui uo : Value) (w : World) (ha : Bs S vr vi vo w) (hb : Bs S ur ui uo w) :
    Calls Try.prog 15 #[.agg (whc K S vr vi vo), .agg (whc K S ur ui uo)] w fun e w' => e = .returned (.bool true) ∧ Below w.heap.size w w' := by
  have HB : Hid (∀ o o', Below w.heap.size w ((w.alloc o).alloc o')) := fun o o' => ((Below.refl _ _).alloc (Nat.le_refl _) o).alloc (by simp) o'
  obtain ⟨W0, hW0, r0, r1, b0, s0⟩ := start2 w (whc K S vr vi vo) (whc K S ur ui uo) 37 37
  have C0 : Hid (∀ j v, (cpc K)[j]? = some v → W0.cell? ⟨w.heap.size, 0 + j, none⟩ = some v) := fun j v hv => by rw [r0.out.cell]; exact whc_c K S _ _ _ j v hv
  have C1 : Hid (∀ j v, (cpc K)[j]? = some v → W0.cell? ⟨w.heap.size + 1, 0 + j, none⟩ = some v) := fun j v hv => by rw [r1.out.cell]; exact whc_c K S _ _ _ j v hv
  have D0 : Hid (∀ j v, (stc S vr vi vo)[j]? = some v → W0.cell? ⟨w.heap.size, 82 + j, none⟩ = some v) := fun j v hv => by rw [r0.out.cell]; exact whc_b K S _ _ _ j v hv
  have D1 : Hid (∀ j v, (stc S ur ui uo)[j]? = some v → W0.cell? ⟨w.heap.size + 1, 82 + j, none⟩ = some v) := fun j v hv => by rw [r1.out.cell]; exact whc_b K S _ _ _ j v hv
  have HIC := Hid.mk' (info_cpu7 K)
  have HI0 := Hid.mk' (info_bst S vr vi vo)
  have HI1 := Hid.mk' (info_bst S ur ui uo)
  have HBU := Hid.mk' (buses_t S vr vi vo ur ui uo W0 (ha.later b0.out) (hb.later b0.out))
  have HEQ := Hid.mk' (eq_cpu W0 K)
  have HEG := Hid.mk' (fun x y => eqG_cpu x y (cpc K) (cpc K) W0)
  have HB0 := Hid.mk' b0.out
  clear ha hb b0 r0 r1
  generalize whc K S vr vi vo = VA at *
  generalize whc K S ur ui uo = VB at *
  generalize stc S vr vi vo = SA at *
  generalize stc S ur ui uo = SB at *
  generalize cpc K = CK at *
  go_enter Try.func15, Try.ntmps15
  go_upto_region 1 with fail
  clear hW0 s0
  go_wp2_with (first | (refine wpList_load_agg (by rfl) 31 _ (by rfl) w.heap.size 0 (by rfl) CK _ C0.out Try.underlying31 (by rfl) HIC.out ?_) | (refine wpList_load_agg (by rfl) 31 _ (by rfl) (w.heap.size + 1) 0 (by rfl) CK _ C1.out Try.underlying31 (by rfl) HIC.out ?_) | (refine wpList_eql_agg (by rfl) 31 _ _ _ (by rfl) CK CK (by rfl) (by rfl) HEQ.out (HEG.out _ _) ?_) | (refine wpList_load_aggG (by rfl) 35 _ (by rfl) w.heap.size 82 (by rfl) SA _ D0.out Try.underlying35 (by rfl) HI0.out ?_) | (refine wpList_load_aggG (by rfl) 35 _ (by rfl) (w.heap.size + 1) 82 (by rfl) SB _ D1.out Try.underlying35 (by rfl) HI1.out ?_) | (go_at_call 34; refine HBU.out.mono ?_; rintro e w5 ⟨rfl, hb5⟩; have HB5 := Hid.mk' hb5; clear hb5))
  go_ret
  exact ⟨rfl, HB0.out.trans (HB5.out.mono HB0.out.size)⟩
end Go.Proofs.Ytgblpjkpeihpeaa
namespace Go.Proofs.Ytgblpjkpeihpeaa
set_option linter.unusedVariables false
set_option maxRecDepth 100000
open Go.ChangeShapes Go.WideShapes Go.ChangeAt Go.RowKit Go.Deep
/-- The marks behind a loose list. -/
def mks (k : Nat) : List Int := (List.range k).map fun i : Nat => (128 + (i : Int))
theorem mks_succ (k : Nat) : mks (k + 1) = mks k ++ [128 + (k : Int)] := by simp [mks, List.range_succ]
theorem mks_length (k : Nat) : (mks k).length = k := by simp [mks]
theorem mks_get (k j : Nat) (h : j < k) : (mks k).getD j 0 = 128 + (j : Int) := by simp [mks, h]
set_option maxHeartbeats 4000000 in
theorem loose_c (l : List Int) (v : Value) (w : World) (hv : Byt w v l) (hl : l.length ≤ 140737488351232) :
    Calls Try.prog 10 #[v] w fun e w' => ∃ u, e = .returned u ∧ Owb w.heap.size w' u (l ++ mks 64) ∧ Below w.heap.size w w' := by
  have HO : Hid ((w.alloc (.cells #[] 5)).ownsRow w.heap.size 5 1 (.slice (some ⟨w.heap.size, 0, none⟩) 0 0) ([] : List Int).length (bv [])) := World.ownsRow_made w #[] 0 (Nat.le_refl _) (Nat.zero_le _) rfl
  have HV := Hid.mk' (hv.later (below_al w (.cells #[] 5)) rfl)
  have HF0 : Hid (Fr w.heap.size w (w.alloc (.cells #[] 5))) := (Fr.refl _ _).alloc (Nat.le_refl _) _
  obtain ⟨B, hB⟩ : ∃ B, B = w.heap.size := ⟨_, rfl⟩
  have HB0 := Hid.mk' hB
  have hBs : B ≤ (w.alloc (.cells #[] 5)).heap.size := by rw [hB]; simp
  have HL := Hid.mk' hl
  obtain ⟨a, cap, rfl, _⟩ := hv
  have HO2 : Hid (Owb B (w.alloc (.cells #[] 5)) (.slice (some ⟨w.heap.size, 0, none⟩) 0 0) []) := own_le HO.out (by rw [hB]; exact Nat.le_refl _)
  rw [← hB] at HF0
  clear hB hl HO
  go_enter Try.func10, Try.ntmps10
  go_upto_region 2 with (at_builtin; refine appY (by rfl) _ _ (by rfl) B _ _ [] l (by rfl) HO2.out (by rfl) HV.out (by have := HL.out; simp; omega) hBs ?_; intro v1 W1 ho1 hf1; have HO1 := Hid.mk' ho1; have HF1 := Hid.mk' (HF0.out.trans hf1); clear ho1 hf1)
  rw [List.nil_append] at HO1
  clear HO2 HV HF0 hBs
  go_wp2
  go_loopw [3, 4] (fun v i wr => ∃ k : Nat, k ≤ 64 ∧ i = .int .i64 k ∧ Hid (Owb B wr v (l ++ mks k)) ∧ Hid (Fr B w wr)) (fun _ i _ => 64 - (intOf i).toNat)
  case atStart => exact ⟨0, Nat.zero_le _, rfl, by unfold Hid; rw [show mks 0 = [] from rfl, List.append_nil]; exact HO1.out, HF1⟩
  case round =>
    obtain ⟨k, hk, rfl, ho, hf⟩ := hrel
    clear HO1 HF1
    have hBr : B ≤ wr.heap.size := by rw [HB0.out]; exact hf.out.b.size
    by_cases hlt : k < 64
    · have hlt2 : (k : Int) < 64 := by omega
      have hk0 : (0 : Int) ≤ (k : Int) := by omega
      have hmod : (128 + (k : Int)) % 256 = 128 + (k : Int) := by omega
      have HLL : Hid ((l ++ mks k).length + 1 < 140737488355328) := by have := HL.out; unfold Hid; rw [List.length_append, mks_length]; omega
      go_wp2_with (at_builtin; refine appN (by rfl) _ _ (by rfl) B _ (l ++ mks k) [128 + (k : Int)] (by rfl) ho.out _ 1 (by rfl) (by rfl) (by simp) (by have := HLL.out; simp at this ⊢; omega) hBr ?_; intro v5 w5 ho1 hf1; have HO5 := Hid.mk' ho1; have HG5 := Hid.mk' hf1; clear ho1 hf1)
      go_roundw
      case rel => exact ⟨k + 1, by omega, by go_num, by unfold Hid; rw [mks_succ, ← List.append_assoc]; exact HO5.out, hf.out.trans HG5.out⟩
      case measure => simp [intOf]; omega
    · have hk64 : k = 64 := by omega
      subst hk64
      go_wp2
      go_ret
      exact ⟨_, rfl, by rw [← HB0.out]; exact ho.out, by rw [← HB0.out]; exact hf.out.b⟩
set_option maxHeartbeats 4000000 in
theorem kept_t (l : List Int) (u v : Value) (w : World) (hu : Byt w u (l ++ mks 64)) (hv : Byt w v l) (hl : l.length ≤ 140737488351232) :
    Calls Try.prog 14 #[u, v] w fun e w' => e = .returned (.bool true) ∧ w' = w := by
  have hu0 := hu
  obtain ⟨a, cap, e1, hc, _, hcell⟩ := hu
  subst e1
  have hsl := sl_h w a (l ++ mks 64).length cap l.length (by rw [List.length_append] at hc; omega)
  have hcut := hu0.cut 0 l.length cap (Nat.zero_le _) (by rw [List.length_append] at hc; omega) (Nat.le_refl _) (by rw [List.length_append]; omega)
  rw [List.drop_zero, Nat.sub_zero, Nat.sub_zero, List.take_append_of_le_length (Nat.le_refl _), List.take_length] at hcut
  obtain ⟨ad, had⟩ : ∃ ad, ad = (if cap = 0 then a else a.map (fun x => x.add 0)) := ⟨_, rfl⟩
  rw [← had] at hsl hcut
  clear had
  have HSM := Hid.mk' (lsame_t l _ v w hcut hv)
  obtain ⟨g, off, rfl, hg, hce⟩ := hcell (by intro e; have := congrArg List.length e; simp [mks_length] at this)
  have HCE : Hid (∀ j, j < 64 → w.cell? ⟨g, off + (l.length + j), none⟩ = some (.int .u8 (128 + (j : Int)))) := fun j hj => by
    rw [hce (l.length + j) (by rw [List.length_append, mks_length]; omega), List.getD_eq_getElem?_getD, List.getElem?_append_right (by omega), Nat.add_sub_cancel_left, ← List.getD_eq_getElem?_getD, mks_get _ _ hj]
  obtain ⟨b, d, e2, _⟩ := hv
  subst e2
  obtain ⟨n, hn⟩ : ∃ n, n = l.length := ⟨_, rfl⟩
  obtain ⟨m, hm⟩ : ∃ m, m = (l ++ mks 64).length := ⟨_, rfl⟩
  have hmn : m = n + 64 := by rw [hm, hn, List.length_append, mks_length]
  rw [← hm, ← hn] at hsl
  rw [← hn] at HSM HCE hl
  rw [← hm, ← hn]
  clear hn hm hcut hu0 hce hc
  subst hmn
  go_enter Try.func14, Try.ntmps14
  go_wp2_with (go_at_call 13; refine HSM.out.mono ?_; rintro e w5 ⟨rfl, hw5⟩; have hw6 := hw5.symm; subst hw6)
  go_loopw [5] (fun i wr => ∃ k : Nat, k ≤ 64 ∧ i = .int .i64 k ∧ wr = w) (fun i _ => 64 - (intOf i).toNat)
  case atStart => exact ⟨0, Nat.zero_le _, rfl, rfl⟩
  case round =>
    obtain ⟨k, hk, rfl, hwr⟩ := hrel
    have hwr2 := hwr.symm
    subst hwr2
    clear hwr
    by_cases hlt : k < 64
    · have hlt2 : (k : Int) < 64 := by omega
      have hmod : (128 + (k : Int)) % 256 = 128 + (k : Int) := by omega
      have hcA := HCE.out k hlt
      have hnk : (n : Int) + (k : Int) ≤ 140737488355328 := by omega
      have hnk2 : (n : Int) + (k : Int) < (n : Int) + 64 := by omega
      go_wp2
      go_roundw
      case rel => exact ⟨k + 1, by omega, by go_num, trivial⟩
      case measure => simp [intOf]; omega
    · have hk64 : k = 64 := by omega
      subst hk64
      go_wp2
      go_ret
      exact ⟨rfl, rfl⟩
end Go.Proofs.Ytgblpjkpeihpeaa
namespace Go.Proofs.Ytgblpjkpeihpeaa
set_option linter.unusedVariables false
set_option maxRecDepth 100000
open Go.ChangeShapes Go.WideShapes Go.ChangeAt Go.RowKit Go.Deep
theorem hnum_c (x : Int) (w : World) : Calls Try.prog 6 #[.int .i64 x] w fun e w' => e = .returned (.int .i64 x) ∧ w' = w := by
  go_enter Try.func6, Try.ntmps6
  go_wp2
  go_ret
  exact ⟨rfl, rfl⟩
theorem Sv.slices {B : Nat} {S : St} {ur ui uo : Value} {w : World} (h : Sv B S ur ui uo w) : ∃ a b c x y z, ur = .slice a S.ram.length x ∧ ui = .slice b S.inp.length y ∧ uo = .slice c S.out.length z := by
  obtain ⟨a, x, e1, _⟩ := h.bs.r
  obtain ⟨b, y, e2, _⟩ := h.bs.i
  obtain ⟨c, z, e3, _⟩ := h.bs.o
  exact ⟨a, b, c, x, y, z, e1, e2, e3⟩
theorem saveChecks_c (K : Cp) (S : St) (ar ai ao : Option Addr) (cr ci co : Nat) (w : World) (hs : Bs S (.slice ar S.ram.length cr) (.slice ai S.inp.length ci) (.slice ao S.out.length co) w)
    (lr : S.ram.length ≤ 140737488355328) (li : S.inp.length ≤ 140737488355328) (lo : S.out.length ≤ 140737488355328) :
    Calls Try.prog 3 #[.agg (whc K S (.slice ar S.ram.length cr) (.slice ai S.inp.length ci) (.slice ao S.out.length co))] w fun e w' => e = .returned (.bool true) ∧ Below w.heap.size w w' := by
  have HW : Hid (Row (w.alloc (.cells (whc K S (.slice ar S.ram.length cr) (.slice ai S.inp.length ci) (.slice ao S.out.length co)) 37)) w.heap.size (whc K S (.slice ar S.ram.length cr) (.slice ai S.inp.length ci) (.slice ao S.out.length co)) 37) := Row.new _ _ _
  have HBB : Hid (Below w.heap.size w (w.alloc (.cells (whc K S (.slice ar S.ram.length cr) (.slice ai S.inp.length ci) (.slice ao S.out.length co)) 37))) := below_al _ _
  have HC : Hid (∃ c : Int, c = (if S.ok then 0 else 162)) := ⟨_, rfl⟩
  go_enter Try.func3, Try.ntmps3
  go_wp2
  rename_i hK
  obtain ⟨W, hW⟩ : ∃ W, W = w.alloc (.cells (whc K S (.slice ar S.ram.length cr) (.slice ai S.inp.length ci) (.slice ao S.out.length co)) 37) := ⟨_, rfl⟩
  rw [← hW] at HW HBB ⊢
  have hs1 := hs.later HBB.out
  have hr := HW.out
  have hlt := hr.lt
  clear hW
  obtain ⟨V, hV⟩ : ∃ V, V = whc K S (.slice ar S.ram.length cr) (.slice ai S.inp.length ci) (.slice ao S.out.length co) := ⟨_, rfl⟩
  rw [← hV] at hr
  have hI : (Try.prog.info? 37).map (·.size) = some V.size := by rw [hV]; exact info_wh _ _ _ _ _
  have c1 := fun w' hs' => twin_c K S ar ai ao cr ci co w' hs' lr li lo
  have c5 := fun w' => rchk_c K S ar ai ao cr ci co w'
  rw [← hV] at c1 c5
  refine wp_region_mk (by kernel_rfl) (fun i => ([[], [0], [1], [2], [], [4], [3, 5], [6]] : List (List Nat)).getD i [])
    (fun i => ([fun v _ => v = .agg V, fun v w => ∃ ur ui uo B, v = .agg (whc K S ur ui uo) ∧ Sv B S ur ui uo w, fun v _ => v = .int .i64 (if S.ok then 0 else 162), fun v _ => v = .int .i64 (if S.ok then 0 else 162), fun v _ => v = .agg V, fun v _ => v = .int .i64 (if S.ok then 0 else 162), fun v _ => v = .bool true, fun v _ => v = .bool true] : List (Value → World → Prop)).getD i (fun _ _ => True)) W _ (by kernel_rfl) ?_ (hop_list ⟨?_, ?_, ?_, ?_, ?_, ?_, ?_, ?_, trivial⟩) ?_
  · intro j v w1 w2 h hb
    match j, h with
    | 1, ⟨ur, ui, uo, B, e, hsv⟩ => exact ⟨ur, ui, uo, B, e, hsv.later hb⟩
    | 0, h | 2, h | 3, h | 4, h | 5, h | 6, h | 7, h | _ + 8, h => exact h
  · refine stp_con _ rfl rfl rfl (by simp) (fun a w1 h1 h2 h3 => ?_)
    have q : a.eval (.tmp 1) = .pointer (some ⟨w.heap.size, 0, none⟩) := (h1 1 (by kernel_rfl)).trans rfl
    have hl := ld_agg_w (P := Try.prog) 37 V (hr.later h2 hlt) Try.underlying37 (by rfl) hI
    simp only [execOp, q]; exact hl
  · refine stp_call 8 rfl rfl (by simp) (fun a w1 h1 h2 h3 => ⟨#[.agg V], ?_, ?_⟩)
    · have q : a.eval (.tmp 3) = .agg V := h3 0 (by decide)
      have hf : a.eval (.func 8) = .func (.func 8) #[] #[] := rfl
      clear h1 h2 h3
      generalize a.eval = ρ at *
      simp [execOp, q, hf, go_sem]
    · exact (c1 w1 (hs1.later h2)).mono fun e w2 ⟨ur, ui, uo, h5, h6, h7⟩ => ⟨_, h5, h7, ur, ui, uo, _, rfl, h6⟩
  · refine stp_call 7 rfl rfl (by simp) (fun a w1 h1 h2 h3 => ?_)
    obtain ⟨ur, ui, uo, B, q, hsv⟩ : ∃ ur ui uo B, a.eval (.tmp 4) = .agg (whc K S ur ui uo) ∧ Sv B S ur ui uo w1 := h3 1 (by decide)
    refine ⟨#[.agg (whc K S ur ui uo)], ?_, ?_⟩
    · have hf : a.eval (.func 7) = .func (.func 7) #[] #[] := rfl
      clear h1 h2 h3
      generalize a.eval = ρ at *
      simp [execOp, q, hf, go_sem]
    · obtain ⟨a1, a2, a3, x, y, z, rfl, rfl, rfl⟩ := hsv.slices
      exact (schk_c K S a1 a2 a3 x y z w1 hsv.bs lr li lo).mono fun e w2 ⟨h5, h6⟩ => ⟨_, h5, h6, rfl⟩
  · refine stp_call 6 rfl rfl (by simp) (fun a w1 h1 h2 h3 => ⟨#[.int .i64 (if S.ok then 0 else 162)], ?_, ?_⟩)
    · have q : a.eval (.tmp 5) = .int .i64 (if S.ok then 0 else 162) := h3 2 (by decide)
      have hf : a.eval (.func 6) = .func (.func 6) #[] #[] := rfl
      clear h1 h2 h3
      generalize a.eval = ρ at *
      simp [execOp, q, hf, go_sem]
    · exact (hnum_c _ w1).mono fun e w2 ⟨h5, h6⟩ => ⟨_, h5, by rw [h6]; exact Below.refl _ _, rfl⟩
  · refine stp_con _ rfl rfl rfl (by simp) (fun a w1 h1 h2 h3 => ?_)
    have q : a.eval (.tmp 1) = .pointer (some ⟨w.heap.size, 0, none⟩) := (h1 1 (by kernel_rfl)).trans rfl
    have hl := ld_agg_w (P := Try.prog) 37 V (hr.later h2 hlt) Try.underlying37 (by rfl) hI
    simp only [execOp, q]; exact hl
  · refine stp_call 9 rfl rfl (by simp) (fun a w1 h1 h2 h3 => ⟨#[.agg V], ?_, ?_⟩)
    · have q : a.eval (.tmp 7) = .agg V := h3 4 (by decide)
      have hf : a.eval (.func 9) = .func (.func 9) #[] #[] := rfl
      clear h1 h2 h3
      generalize a.eval = ρ at *
      simp [execOp, q, hf, go_sem]
    · exact (c5 w1).mono fun e w2 ⟨h5, h6⟩ => ⟨_, h5, h6, rfl⟩
  · refine stp_con _ rfl rfl rfl (by simp) (fun a w1 h1 h2 h3 => ?_)
    have q1 : a.eval (.tmp 6) = .int .i64 (if S.ok then 0 else 162) := h3 3 (by decide)
    have q2 : a.eval (.tmp 8) = .int .i64 (if S.ok then 0 else 162) := h3 5 (by decide)
    clear h1 h2 h3
    generalize a.eval = ρ at *
    generalize (if S.ok then (0 : Int) else 162) = c at *
    simp [execOp, q1, q2, go_sem]
  · refine stp_con _ rfl rfl rfl (by simp) (fun a w1 h1 h2 h3 => ?_)
    have q1 : a.eval (.tmp 9) = .bool true := h3 6 (by decide)
    clear h1 h2 h3
    generalize a.eval = ρ at *
    simp [execOp, q1, go_sem]
  · intro a w1 hts hdf hold hb hf
    have e2 : a.eval (.tmp 2) = .bool true := hf 7 (by decide)
    refine hK a w1 ?_
    refine wp_ret (bodyPost_ret (v := .bool true) ?_ hdf ?_)
    · rw [← e2]
      have e := results_tmp (fn := Try.f3) (t := 2) rfl a.tmps Try.prog w1
      rw [e]
      simp [Act.eval]
    · exact ⟨rfl, HBB.out.trans (hb.mono HBB.out.size)⟩
end Go.Proofs.Ytgblpjkpeihpeaa
