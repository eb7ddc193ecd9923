/-
  Ux.
-/
import Derived.Test.YtidfndgedopghaaGreatDoorM23
namespace Go.Proofs.YtidfndgedopghaaGreatDoor
set_option linter.unusedVariables false
set_option maxRecDepth 100000
set_option maxHeartbeats 4000000
open Go.ChangeShapes Go.WideShapes Go.ChangeAt Go.RowKit Go.Deep
theorem start5 (w : World) (c1 c2 c3 c4 c5 : Array Value) (t1 t2 t3 t4 t5 : TypeId) : ∃ W, ((((w.alloc (.cells c1 t1)).alloc (.cells c2 t2)).alloc (.cells c3 t3)).alloc (.cells c4 t4)).alloc (.cells c5 t5) = W ∧ Hid (Row W w.heap.size c1 t1) ∧ Hid (Row W (w.heap.size + 1) c2 t2) ∧ Hid (Row W (w.heap.size + 2) c3 t3) ∧ Hid (Row W (w.heap.size + 3) c4 t4) ∧ Hid (Row W (w.heap.size + 4) c5 t5) ∧ Hid (Below w.heap.size w W) ∧ Hid (W.heap.size = w.heap.size + 5) := by
  obtain ⟨W, hW, r1, r2, r3, b, s⟩ := start3 w c1 c2 c3 t1 t2 t3
  obtain ⟨V, hV, r4, r5, b2, s2⟩ := start2 W c4 c5 t4 t5
  refine ⟨V, by rw [hW, hV], r1.out.later b2.out r1.out.lt, r2.out.later b2.out r2.out.lt, r3.out.later b2.out r3.out.lt, ?_, ?_, b.out.trans (b2.out.mono b.out.size), ?_⟩
  · rw [s] at r4; exact r4
  · rw [s] at r5; exact r5
  · show _ = _; omega
def woc (tk ex so : Bool) (vi : Value) : Array Value := #[.bool tk, .bool ex, .bool so, vi]
theorem info_wo (tk ex so : Bool) (vi : Value) : (Tryz.prog.info? 50).map (·.size) = some (woc tk ex so vi).size := by kernel_rfl
def sgz : Array Value := sgc cz zS (.slice none 0 0) (.slice none 0 0) (.slice none 0 0) cz zS (.slice none 0 0) (.slice none 0 0) (.slice none 0 0) false false false (.slice none 0 0) rz false
theorem zero_sg (w : World) : (zeroValue 73).run Tryz.prog w = .ok (.agg sgz) w := by kernel_rfl
theorem sgc_size (b : Cp) (B : St) (br bi bo : Value) (a : Cp) (A : St) (ar ai ao : Value) (tk ex so : Bool) (vi : Value) (r : Rw) (wp : Bool) : (sgc b B br bi bo a A ar ai ao tk ex so vi r wp).size = 215 := by
  unfold sgc
  simp only [Array.size_append, whc_size, rwc_size]
  rfl
theorem info_sg (b : Cp) (B : St) (br bi bo : Value) (a : Cp) (A : St) (ar ai ao : Value) (tk ex so : Bool) (vi : Value) (r : Rw) (wp : Bool) : (Tryz.prog.info? 73).map (·.size) = some (sgc b B br bi bo a A ar ai ao tk ex so vi r wp).size := by rw [sgc_size]; kernel_rfl
theorem built_sg (b : Cp) (B : St) (br bi bo : Value) (a : Cp) (A : St) (ar ai ao : Value) (tk ex so : Bool) (vi : Value) (r : Rw) : Tryz.prog.built 73 [(0, .agg (whc b B br bi bo)), (1, .agg (whc a A ar ai ao)), (2, .agg (woc tk ex so vi)), (3, .agg (rwc r))] = some (sgc b B br bi bo a A ar ai ao tk ex so vi r false) := by kernel_rfl
theorem sgc_ones (b : Cp) (B : St) (br bi bo : Value) (a : Cp) (A : St) (ar ai ao : Value) (tk ex so : Bool) (vi : Value) (r : Rw) (wp : Bool) (hB : (whc b B br bi bo).all (·.oneCell') = true) (hA : (whc a A ar ai ao).all (·.oneCell') = true) (hi : vi.oneCell' = true) : (sgc b B br bi bo a A ar ai ao tk ex so vi r wp).all (·.oneCell') = true := by
  have hr := rwc_ones r
  have h4 : (#[Value.bool tk, .bool ex, .bool so, vi] : Array Value).all (·.oneCell') = true := by simpa [Value.oneCell'] using hi
  have h1 : (#[Value.bool wp] : Array Value).all (·.oneCell') = true := by simp [Value.oneCell']
  unfold sgc
  rw [Array.all_append, Array.all_append, Array.all_append, Array.all_append, hB, hA, hr, h4, h1]
  rfl
theorem lay_all (X Y : Array Value) (h : X.size = Y.size) : layC X 0 Y.toList = Y := by
  apply Array.ext_getElem?
  intro j
  rw [lay_get _ _ _ _ (by rw [Array.length_toList]; omega), Array.length_toList]
  by_cases hj : j < Y.size
  · rw [if_pos (by omega), Nat.sub_zero, Array.getElem?_toList]
  · rw [if_neg (by omega), Array.getElem?_eq_none (by omega), Array.getElem?_eq_none (by omega)]
theorem lay_app_l (X Z : Array Value) (o : Nat) (l : List Value) (h : o + l.length ≤ X.size) : layC (X ++ Z) o l = layC X o l ++ Z := by
  apply Array.ext_getElem?
  intro j
  rw [lay_get _ _ _ _ (by rw [Array.size_append]; omega)]
  by_cases hj : j < X.size
  · have e1 : (layC X o l ++ Z)[j]? = (layC X o l)[j]? := Array.getElem?_append_left (by rw [lay_size]; exact hj)
    have e2 : (X ++ Z)[j]? = X[j]? := Array.getElem?_append_left hj
    rw [e1, e2, lay_get _ _ _ _ h]
  · have e1 : (layC X o l ++ Z)[j]? = Z[j - (layC X o l).size]? := Array.getElem?_append_right (by rw [lay_size]; omega)
    have e2 : (X ++ Z)[j]? = Z[j - X.size]? := Array.getElem?_append_right (by omega)
    rw [e1, e2, lay_size, if_neg (by omega)]
theorem lay_app_r (X Z : Array Value) (n o : Nat) (l : List Value) (hn : X.size = n) (h : o + l.length ≤ Z.size) : layC (X ++ Z) (n + o) l = X ++ layC Z o l := by
  subst hn
  apply Array.ext_getElem?
  intro j
  rw [lay_get _ _ _ _ (by rw [Array.size_append]; omega)]
  by_cases hj : j < X.size
  · rw [if_neg (by omega), Array.getElem?_append_left hj, Array.getElem?_append_left hj]
  · rw [Array.getElem?_append_right (by omega), Array.getElem?_append_right (by omega), lay_get _ _ _ _ h]
    by_cases hq : X.size + o ≤ j ∧ j < X.size + o + l.length
    · rw [if_pos hq, if_pos (by omega), show j - (X.size + o) = j - X.size - o by omega]
    · rw [if_neg hq, if_neg (by omega)]
theorem whc_app (K : Cp) (S : St) (vr vi vo : Value) : whc K S vr vi vo = cpc K ++ stc S vr vi vo := by
  unfold whc
  generalize cpc K = X
  generalize stc S vr vi vo = Y
  rw [← Array.toList_append]
theorem whc_lay (b b' : Cp) (B : St) (br bi bo : Value) : layC (whc b B br bi bo) 0 (cpc b').toList = whc b' B br bi bo := by
  rw [whc_app, whc_app]
  have h1 := cpc_size b
  have h2 := cpc_size b'
  generalize cpc b = X at *
  generalize cpc b' = Y at *
  generalize stc B br bi bo = Z
  rw [lay_app_l X Z 0 _ (by rw [Array.length_toList]; omega), lay_all X Y (by omega)]
theorem sgc_lay1 (b b' : Cp) (B : St) (br bi bo : Value) (a : Cp) (A : St) (ar ai ao : Value) (tk ex so : Bool) (vi : Value) (r : Rw) (wp : Bool) : layC (sgc b B br bi bo a A ar ai ao tk ex so vi r wp) 0 (cpc b').toList = sgc b' B br bi bo a A ar ai ao tk ex so vi r wp := by
  unfold sgc
  have h1 := whc_size b B br bi bo
  have h2 := cpc_size b'
  have h3 := whc_lay b b' B br bi bo
  generalize whc a A ar ai ao ++ (#[.bool tk, .bool ex, .bool so, vi] ++ (rwc r ++ #[.bool wp])) = Z
  generalize whc b B br bi bo = X at *
  generalize whc b' B br bi bo = Y at *
  generalize cpc b' = C at *
  rw [lay_app_l X Z 0 _ (by rw [Array.length_toList]; omega), h3]
theorem sgc_lay2 (b : Cp) (B : St) (br bi bo : Value) (a a' : Cp) (A : St) (ar ai ao : Value) (tk ex so : Bool) (vi : Value) (r : Rw) (wp : Bool) : layC (sgc b B br bi bo a A ar ai ao tk ex so vi r wp) 97 (cpc a').toList = sgc b B br bi bo a' A ar ai ao tk ex so vi r wp := by
  unfold sgc
  have h1 := whc_size b B br bi bo
  have h4 := whc_size a A ar ai ao
  have h2 := cpc_size a'
  have h3 := whc_lay a a' A ar ai ao
  generalize #[.bool tk, .bool ex, .bool so, vi] ++ (rwc r ++ #[.bool wp]) = Z
  generalize whc a A ar ai ao = X at *
  generalize whc a' A ar ai ao = Y at *
  generalize whc b B br bi bo = V at *
  generalize cpc a' = C at *
  rw [show 97 = 97 + 0 from rfl, lay_app_r V _ 97 0 _ h1 (by rw [Array.length_toList, Array.size_append]; omega), lay_app_l X Z 0 _ (by rw [Array.length_toList]; omega), h3]
theorem set_app (X Z : Array Value) (n i : Nat) (v : Value) (hn : X.size = n) : (X ++ Z).setIfInBounds (n + i) v = X ++ Z.setIfInBounds i v := by
  subst hn
  rw [Array.setIfInBounds_append_right (by omega), Nat.add_sub_cancel_left]
theorem sgc_setp (b : Cp) (B : St) (br bi bo : Value) (a : Cp) (A : St) (ar ai ao : Value) (tk ex so : Bool) (vi : Value) (r : Rw) (wp z : Bool) : (sgc b B br bi bo a A ar ai ao tk ex so vi r wp).setIfInBounds 214 (.bool z) = sgc b B br bi bo a A ar ai ao tk ex so vi r z := by
  unfold sgc
  have h1 := whc_size b B br bi bo
  have h4 := whc_size a A ar ai ao
  have h5 := rwc_size r
  generalize whc a A ar ai ao = X at *
  generalize whc b B br bi bo = V at *
  generalize rwc r = R at *
  rw [show 214 = 97 + (97 + (4 + (16 + 0))) from rfl, set_app V _ 97 _ _ h1, set_app X _ 97 _ _ h4, set_app #[.bool tk, .bool ex, .bool so, vi] _ 4 _ _ rfl, set_app R _ 16 _ _ h5]
  rfl
theorem wpList_eql_aggb {ops : Array Oper} {rest : List Oper} {o : Oper} {a : Act} {w : World} {Q : Exit → Act → World → Prop} (hw : Region.wanted o (yielded ops a.tmps) = true) (t t2 : TypeId) (x y : Operand) (ho : o.op = .binOp .eql t x y t2)
    (u v : Array Value) (hx : a.eval x = .agg u) (hy : a.eval y = .agg v) (b : Bool) (he : (Op.equalIn 10000 t (.agg u) (.agg v)).run Tryz.prog w = .ok b w) (hg : (eqGuard .eql t x y (.agg u) (.agg v)).run Tryz.prog w = .ok () w)
    (h : wpList Tryz.prog ops Q rest (a.put o.dst (.bool b)) w) : wpList Tryz.prog ops Q (o :: rest) a w :=
  BigFrame.wpList_want hw fun _ hK => by
    unfold Oper.wp execOp
    simp only [ho, hx, hy]
    go_simp
    exact hK _ _ h
set_option maxHeartbeats 8000000 in
theorem sight_c (b : Cp) (B : St) (br bi bo : Value) (a : Cp) (A : St) (ar ai ao : Value) (tk ex so : Bool) (vi : Value) (r : Rw) (w : World) (hB : ∀ k, (whc k B br bi bo).all (·.oneCell') = true) (hA : ∀ k, (whc k A ar ai ao).all (·.oneCell') = true) (hi : vi.oneCell' = true) :
    Calls Tryz.prog 31 #[.agg (whc b B br bi bo), .agg (whc a A ar ai ao), .agg (woc tk ex so vi), .agg (rwc r)] w fun e w' => e = .returned (.agg (sgc (PR b) B br bi bo (PR a) A ar ai ao tk ex so vi r (eqC (PR a) a))) ∧ Below w.heap.size w w' := by
  have hz := zero_sg
  obtain ⟨W0, hW0, r0, r1, r2, r3, r4, b0, s0⟩ := start5 w (whc b B br bi bo) (whc a A ar ai ao) (woc tk ex so vi) (rwc r) sgz 46 46 50 52 73
  have HON : Hid ((sgc b B br bi bo a A ar ai ao tk ex so vi r false).all (·.oneCell') = true) := sgc_ones _ _ _ _ _ _ _ _ _ _ _ _ _ _ _ _ (hB b) (hA a) hi
  have HB := Hid.mkU hB
  have HA := Hid.mkU hA
  have HI := Hid.mkU hi
  clear hB hA hi
  have HCS : Hid (sgc (PR b) B br bi bo (PR a) A ar ai ao tk ex so vi r (eqC (PR a) a) = sgc (PR b) B br bi bo (PR a) A ar ai ao tk ex so vi r (eqC (PR a) a)) := rfl
  generalize hcs : sgc (PR b) B br bi bo (PR a) A ar ai ao tk ex so vi r (eqC (PR a) a) = cs at ⊢
  have HCS : Hid (sgc (PR b) B br bi bo (PR a) A ar ai ao tk ex so vi r (eqC (PR a) a) = cs) := hcs
  clear hcs
  go_enter Tryz.func31, Tryz.ntmps31
  go_upto_region 1 with fail
  clear hW0
  --@R1
  go_upto_region 2 with (first | (refine wpList_load_row (by rfl) _ _ (by rfl) _ (by rfl) 46 _ (0, 0) _ r0.out Tryz.underlying46 (by rfl) (info_whU _ _ _ _ _) ?_) | (refine wpList_load_row (by rfl) _ _ (by rfl) _ (by rfl) 46 _ (0, 0) _ r1.out Tryz.underlying46 (by rfl) (info_whU _ _ _ _ _) ?_) | (refine wpList_load_row (by rfl) _ _ (by rfl) _ (by rfl) 50 _ (0, 0) _ r2.out Tryz.underlying50 (by rfl) (info_wo _ _ _ _) ?_) | (refine wpList_load_row (by rfl) _ _ (by rfl) _ (by rfl) 52 _ (0, 0) _ r3.out Tryz.underlying52 (by rfl) (info_rw _) ?_) | (refine wpList_build_tab (by rfl) 73 _ (by rfl) (sgc b B br bi bo a A ar ai ao tk ex so vi r false) (by kernel_rfl) ?_) | (refine wpList_store_new (by rfl) 73 _ _ (by rfl) (by rfl) sgz (sgc b B br bi bo a A ar ai ao tk ex so vi r false) (by rfl) (by rfl) (info_sg _ _ _ _ _ _ _ _ _ _ _ _ _ _ _ _ ) (by rw [sgc_size]; exact sgc_size _ _ _ _ _ _ _ _ _ _ _ _ _ _ _ _ ) HON.out ?_))
  --@R2
  refine on_W (motive := fun W => Code.wp _ _ _ _ W) (Q := fun W => Row W w.heap.size (whc b B br bi bo) 46 ∧ Row W (w.heap.size + 1) (whc a A ar ai ao) 46 ∧ Row W (w.heap.size + 4) sgz 73 ∧ Row W W0.heap.size (sgc b B br bi bo a A ar ai ao tk ex so vi r false) 73 ∧ Below w.heap.size w W) ⟨r0.out.old r0.out.lt _, r1.out.old r1.out.lt _, r4.out.old r4.out.lt _, Row.new _ _ _, b0.out.trans ((below_al _ _).mono b0.out.size)⟩ ?_
  generalize W0.heap.size = g9 at *
  clear r0 r1 r2 r3 r4 b0 W0 hz
  rintro W1 ⟨q0, q1, q4, q9, qb⟩
  have r0 := Hid.mkU q0
  have r1 := Hid.mkU q1
  have r4 := Hid.mkU q4
  have r9 := Hid.mkU q9
  have BB := Hid.mkU qb
  clear q0 q1 q4 q9 qb
  have C0 : Hid (∀ j v, (cpc b)[j]? = some v → W1.cell? ⟨w.heap.size, 0 + j, none⟩ = some v) := fun j v hv => (r0.out.cell (0 + j)).trans (whc_c b B br bi bo j v hv)
  have C1 : Hid (∀ j v, (cpc a)[j]? = some v → W1.cell? ⟨w.heap.size + 1, 0 + j, none⟩ = some v) := fun j v hv => (r1.out.cell (0 + j)).trans (whc_c a A ar ai ao j v hv)
  have HP : Hid (∀ k : Cp, ∀ x : Later W1, Calls Tryz.prog 23 #[.agg (cpc k)] x.1 fun e w' => e = .returned (.agg (cpc (PR k))) ∧ Below x.1.heap.size x.1 w') := fun k x => Pr_c k x.1
  have hne := later_nonempty W1
  refine wp_region_later_tail (x0 := Later.start W1) 8 (by kernel_rfl) (by kernel_rfl) ?_
  simp only [List.take_succ_cons, List.take_zero]
  go_big_quiet_step (fail)
  (go_big_quiet_want; refine quiet_load_agg 32 _ (by rfl) (w.heap.size) 0 (by rfl) (cpc b) _ r0.out.lt C0.out Tryz.underlying32 (by rfl) (info_cpuU _) ?_; simp only [Act.put, List.setIfInBounds_toArray, List.set_cons_succ, List.set_cons_zero]; go_big_quiet_on)
  (go_big_quiet_step ((go_at_call 23; exact calls_later (HP.out b _))))
  go_big_quiet_step (fail)
  (go_big_quiet_want; refine quiet_load_agg 32 _ (by rfl) ((w.heap.size + 1)) 0 (by rfl) (cpc a) _ r1.out.lt C1.out Tryz.underlying32 (by rfl) (info_cpuU _) ?_; simp only [Act.put, List.setIfInBounds_toArray, List.set_cons_succ, List.set_cons_zero]; go_big_quiet_on)
  (go_big_quiet_step ((go_at_call 23; exact calls_later (HP.out a _))))
  iterate 2 (go_big_quiet_step (fail))
  refine wpQuiet_nil ?_
  rintro _ ⟨yq, rfl⟩
  --@T2
  have R9 := Hid.mkU (lrow r9.out yq)
  have R1 := Hid.mkU (lrow r1.out yq)
  have R4 := Hid.mkU (lrow r4.out yq)
  have B2 := Hid.mkU (BB.out.trans (yq.2.mono BB.out.size))
  have R9b : Hid (Row (yq.1.setCells g9 0 (cpc (PR b)).toList) g9 (sgc (PR b) B br bi bo a A ar ai ao tk ex so vi r false) 73) := by have q := R9.out.lay (cpc (PR b)).toList 0; rw [sgc_lay1] at q; exact q
  have R9c : Hid (Row ((yq.1.setCells g9 0 (cpc (PR b)).toList).setCells g9 97 (cpc (PR a)).toList) g9 (sgc (PR b) B br bi bo (PR a) A ar ai ao tk ex so vi r false) 73) := by have q := R9b.out.lay (cpc (PR a)).toList 97; rw [sgc_lay2] at q; exact q
  have T1 : Hid (yq.1.there g9 0 (cpc (PR b)).size) := R9.out.there (by rw [cpc_size, sgc_size]; omega)
  have T2 : Hid ((yq.1.setCells g9 0 (cpc (PR b)).toList).there g9 97 (cpc (PR a)).size) := R9b.out.there (by rw [cpc_size, sgc_size]; omega)
  have hg9 : g9 = w.heap.size + 5 := s0.out
  have R1c : Hid (Row ((yq.1.setCells g9 0 (cpc (PR b)).toList).setCells g9 97 (cpc (PR a)).toList) (w.heap.size + 1) (whc a A ar ai ao) 46) := (R1.out.lays (by omega) _ _).lays (by omega) _ _
  have R4c : Hid (Row ((yq.1.setCells g9 0 (cpc (PR b)).toList).setCells g9 97 (cpc (PR a)).toList) (w.heap.size + 4) sgz 73) := (R4.out.lays (by omega) _ _).lays (by omega) _ _
  have B2c : Hid (Below w.heap.size w ((yq.1.setCells g9 0 (cpc (PR b)).toList).setCells g9 97 (cpc (PR a)).toList)) := below_lay (by omega) _ _ (below_lay (by omega) _ _ B2.out)
  clear C0 C1 HP hg9 R9 R1 R4 B2 R9b r0 r1 r4 r9 BB hne
  show wpList _ _ _ [_, _, _, _] _ _
  refine wpList_store_part (by rfl) 32 _ _ (by rfl) (by rfl) g9 0 (cpc (PR b)) (by rfl) (by rfl) T1.out (info_cpuU _) (cpc_ones _) ?_
  clear T1
  go_upto_region 3 with (refine wpList_store_part (by rfl) 32 _ _ (by rfl) (by rfl) g9 97 (cpc (PR a)) (by rfl) (by rfl) T2.out (info_cpuU _) (cpc_ones _) ?_)
  --@R3
  refine on_W (motive := fun W => Code.wp _ _ _ _ W) (Q := fun W => Row W (w.heap.size + 1) (whc a A ar ai ao) 46 ∧ Row W (w.heap.size + 4) sgz 73 ∧ Row W g9 (sgc (PR b) B br bi bo (PR a) A ar ai ao tk ex so vi r false) 73 ∧ Below w.heap.size w W) ⟨R1c.out, R4c.out, R9c.out, B2c.out⟩ ?_
  clear R1c R4c R9c B2c T2 HON yq
  rintro W2 ⟨q1, q4, q9, qb⟩
  have r1 := Hid.mkU q1
  have r4 := Hid.mkU q4
  have r9 := Hid.mkU q9
  have BB := Hid.mkU qb
  clear q1 q4 q9 qb
  have c9 : W2.cell? ⟨g9, 214, none⟩ = some (.bool false) := (r9.out.cell 214).trans (sgc_at_wp ..)
  have f9 := r9.out.froz 214
  have C9 : Hid (∀ j v, (cpc (PR a))[j]? = some v → W2.cell? ⟨g9, 97 + j, none⟩ = some v) := fun j v hv => (r9.out.cell (97 + j)).trans (sgc_ca _ _ _ _ _ _ _ _ _ _ _ _ _ _ _ _ j v hv)
  have C1 : Hid (∀ j v, (cpc a)[j]? = some v → W2.cell? ⟨w.heap.size + 1, 0 + j, none⟩ = some v) := fun j v hv => (r1.out.cell (0 + j)).trans (whc_c a A ar ai ao j v hv)
  have HE := Hid.mkU (eq_cpuU (PR a) a W2)
  have hg9 : Hid (w.heap.size + 4 ≠ g9 ∧ w.heap.size ≤ g9) := by have := s0.out; exact ⟨by omega, by omega⟩
  have HON : Hid ((sgc (PR b) B br bi bo (PR a) A ar ai ao tk ex so vi r (eqC (PR a) a)).all (·.oneCell') = true) := sgc_ones _ _ _ _ _ _ _ _ _ _ _ _ _ _ _ _ (HB.out _) (HA.out _) HI.out
  have R9 : Hid (Row (W2.setCell ⟨g9, 214, none⟩ (.bool (eqC (PR a) a))) g9 (sgc (PR b) B br bi bo (PR a) A ar ai ao tk ex so vi r (eqC (PR a) a)) 73) := by have q := r9.out.put (i := 214) (.bool (eqC (PR a) a)); rw [sgc_setp] at q; exact q
  have R4 : Hid (Row (W2.setCell ⟨g9, 214, none⟩ (.bool (eqC (PR a) a))) (w.heap.size + 4) sgz 73) := r4.out.other hg9.out.1 _
  have B2 : Hid (Below w.heap.size w (W2.setCell ⟨g9, 214, none⟩ (.bool (eqC (PR a) a)))) := below_put BB.out hg9.out.2 _
  generalize eqC (PR a) a = z at *
  clear r1 r4 r9 BB hg9 s0
  go_upto_region 4 with (first | (refine wpList_load_agg (by rfl) 32 _ (by rfl) g9 97 (by rfl) (cpc (PR a)) _ C9.out Tryz.underlying32 (by rfl) (info_cpuU _) ?_) | (refine wpList_load_agg (by rfl) 32 _ (by rfl) (w.heap.size + 1) 0 (by rfl) (cpc a) _ C1.out Tryz.underlying32 (by rfl) (info_cpuU _) ?_) | (refine wpList_eql_aggb (by rfl) 32 _ _ _ (by rfl) (cpc (PR a)) (cpc a) (by rfl) (by rfl) z HE.out (eqG_cpuU _ _ _ _ _) ?_))
  --@R4
  refine on_W (motive := fun W => Code.wp _ _ _ _ W) (Q := fun W => Row W (w.heap.size + 4) sgz 73 ∧ Row W g9 cs 73 ∧ Below w.heap.size w W) ⟨R4.out, row_cast R9.out HCS.out, B2.out⟩ ?_
  clear R4 R9 B2 C9 C1 c9 f9 HE W2
  rintro W3 ⟨q4, q9, qb⟩
  have r4 := Hid.mkU q4
  have r9 := Hid.mkU q9
  have BB := Hid.mkU qb
  clear q4 q9 qb
  have HI2 : Hid ((Tryz.prog.info? 73).map (·.size) = some cs.size) := by rw [← HCS.out]; exact info_sg _ _ _ _ _ _ _ _ _ _ _ _ _ _ _ _
  have HZ2 : Hid (sgz.size = cs.size) := by rw [← HCS.out, sgc_size]; exact sgc_size _ _ _ _ _ _ _ _ _ _ _ _ _ _ _ _
  have HON2 : Hid (cs.all (·.oneCell') = true) := by rw [← HCS.out]; exact HON.out
  clear HCS HON
  go_wp2_with (first | (refine wpList_load_row (by rfl) _ _ (by rfl) _ (by rfl) 73 _ (0, 0) _ r9.out Tryz.underlying73 (by rfl) HI2.out ?_) | (refine wpList_store_row (by rfl) _ _ _ (by rfl) (by rfl) _ _ _ (by rfl) (by rfl) r4.out HI2.out HZ2.out HON2.out ?_))
  exact bodyPost_ret (v := .agg cs) (results_cell_row Tryz.results31 _ _ (w.heap.size + 4) 73 _ (0, 0) _ (by rfl) (setRow_heap _ _ _ _ _ _ r4.out) Tryz.underlying73 (by rfl) HI2.out) rfl ⟨rfl, below_row BB.out (by omega) _⟩
end Go.Proofs.YtidfndgedopghaaGreatDoor
