import Derived.Test.YtlhgphokfpnfeaaGreatDoorK21
import Derived.Test.YtlhgphokfpnfeaaGreatDoorK22
namespace Go.Proofs.YtlhgphokfpnfeaaGreatDoor
set_option linter.unusedVariables false
open Go.ChangeShapes Go.WideShapes Go.ChangeAt Go.RowKit Go.Deep
/-- An act. -/
structure Acd where
  kd : Int
  sz : Int
  op : Int
  ad : BitVec 64
  v : BitVec 64
def acc (a : Acd) : Array Value := #[.int .i64 a.kd, .int .i64 a.sz, .int .i64 a.op, .int .u64 (n64 a.ad), .int .u64 (n64 a.v)]
/-- What an act answers. -/
structure Ot where
  A : Int
  B : Int
  N : Int
  ok : Bool
  t : Tp
  K : Cp
def otcell (o : Ot) (j : Nat) : Value :=
  if j = 0 then .int .u64 o.A else if j = 1 then .int .u64 o.B else if j = 2 then .int .i64 o.N else if j = 3 then .bool o.ok else if j = 4 then .bool o.t.is else if j = 5 then .int .u64 o.t.ca else if j = 6 then .int .u64 (n64 o.t.tv) else cpcell o.K (j - 7)
def otc (o : Ot) : Array Value := Array.ofFn (n := 89) fun j => otcell o j.val
theorem otc_size (o : Ot) : (otc o).size = 89 := by simp [otc]
theorem otc_at (o : Ot) (j : Nat) (h : j < 89) : (otc o)[j]? = some (otcell o j) := by simp [otc, h]
theorem otcell_one (o : Ot) (j : Nat) : (otcell o j).oneCell' = true := by
  unfold otcell
  repeat' split
  all_goals first | rfl | exact cpcell_one _ _
theorem otc_ones (o : Ot) : (otc o).all (·.oneCell') = true := by
  rw [Array.all_eq_true]; intro i hi; simp [otc]; exact otcell_one _ _
theorem otc_ext {cs : Array Value} {o : Ot} (hs : cs.size = 89) (h : ∀ j, j < 89 → cs[j]? = some (otcell o j)) : cs = otc o := by
  apply Array.ext_getElem?
  intro j
  by_cases hj : j < 89
  · rw [h j hj, otc_at o j hj]
  · rw [Array.getElem?_eq_none (by omega), Array.getElem?_eq_none (by rw [otc_size]; omega)]
theorem otc_set (o p : Ot) (i : Nat) (hi : i < 89) (v : Value) (h : ∀ j, j < 89 → otcell p j = if i = j then v else otcell o j) : (otc o).setIfInBounds i v = otc p := by
  refine otc_ext (by simp [otc_size]) fun j hj => ?_
  rw [Array.getElem?_setIfInBounds, h j hj]
  by_cases e : i = j
  · subst e; rw [if_pos rfl, if_pos rfl, if_pos (by rw [otc_size]; exact hi)]
  · rw [if_neg e, if_neg e, otc_at o j hj]
theorem otc_A (o : Ot) (a : Int) : (otc o).setIfInBounds 0 (.int .u64 a) = otc { o with A := a } := by
  refine otc_set _ _ _ (by omega) _ fun j hj => ?_
  unfold otcell
  by_cases e : j = 0
  · subst e; rfl
  · simp [e, Ne.symm e]
theorem otc_B (o : Ot) (a : Int) : (otc o).setIfInBounds 1 (.int .u64 a) = otc { o with B := a } := by
  refine otc_set _ _ _ (by omega) _ fun j hj => ?_
  unfold otcell
  by_cases e : j = 1
  · subst e; rfl
  · simp [e, Ne.symm e]
theorem otc_ok (o : Ot) (b : Bool) : (otc o).setIfInBounds 3 (.bool b) = otc { o with ok := b } := by
  refine otc_set _ _ _ (by omega) _ fun j hj => ?_
  unfold otcell
  by_cases e : j = 3
  · subst e; rfl
  · simp [e, Ne.symm e]
theorem otc_t (o : Ot) (t : Tp) : layC (otc o) 4 (tpc t).toList = otc { o with t := t } := by
  refine otc_ext (by rw [lay_size, otc_size]) fun j hj => ?_
  have hl : (tpc t).toList.length = 3 := rfl
  rw [lay_get _ _ _ _ (by rw [hl, otc_size]; omega), hl]
  by_cases h : 4 ≤ j ∧ j < 4 + 3
  · rw [if_pos h]
    have q : j = 4 ∨ j = 5 ∨ j = 6 := by omega
    rcases q with rfl | rfl | rfl <;> rfl
  · rw [if_neg h, otc_at o j hj]
    unfold otcell
    have h4 : ¬ j = 4 := by omega
    have h5 : ¬ j = 5 := by omega
    have h6 : ¬ j = 6 := by omega
    simp [h4, h5, h6]
theorem otc_K (o : Ot) (K : Cp) : layC (otc o) 7 (cpc K).toList = otc { o with K := K } := by
  refine otc_ext (by rw [lay_size, otc_size]) fun j hj => ?_
  have hl : (cpc K).toList.length = 82 := by rw [Array.length_toList, cpc_size]
  rw [lay_get _ _ _ _ (by rw [hl, otc_size]; omega), hl]
  by_cases h : 7 ≤ j ∧ j < 7 + 82
  · rw [if_pos h, Array.getElem?_toList, cpc_at K (j - 7) (by omega)]
    unfold otcell
    rw [if_neg (by omega), if_neg (by omega), if_neg (by omega), if_neg (by omega), if_neg (by omega), if_neg (by omega), if_neg (by omega)]
  · rw [if_neg h, otc_at o j hj]
    unfold otcell
    have q : j = 0 ∨ j = 1 ∨ j = 2 ∨ j = 3 ∨ j = 4 ∨ j = 5 ∨ j = 6 := by omega
    rcases q with rfl | rfl | rfl | rfl | rfl | rfl | rfl <;> rfl
theorem otc_cpu {w : World} {g : Nat} {o : Ot} {t : TypeId} (h : Row w g (otc o) t) : ∀ j v, (cpc o.K)[j]? = some v → w.cell? ⟨g, 7 + j, none⟩ = some v := fun j v hv => by
  have hj : j < 82 := by
    by_cases q : j < 82
    · exact q
    · rw [Array.getElem?_eq_none (by rw [cpc_size]; omega)] at hv; cases hv
  rw [h.cell, otc_at _ _ (by omega)]
  rw [cpc_at _ _ hj] at hv
  rw [← hv]
  unfold otcell
  rw [if_neg (by omega), if_neg (by omega), if_neg (by omega), if_neg (by omega), if_neg (by omega), if_neg (by omega), if_neg (by omega), show 7 + j - 7 = j by omega]
theorem MV_b (S : St) (k : Wy) (b z : Nat) (f : Option (BitVec 64 → BitVec 64)) : MV S { k with b := b } z f = MV S k z f := by cases f <;> rfl
theorem PL_b (S : St) (k : Wy) (b : Nat) (sz : Int) (f : Option (BitVec 64 → BitVec 64)) : PL S { k with b := b } sz f = PL S k sz f := by
  unfold PL
  simp only [MV_b]
theorem AT_b (S : St) (k : Wy) (b : Nat) (sz : Int) (f : Option (BitVec 64 → BitVec 64)) : AT S { k with b := b } sz f = AT S k sz f := by
  unfold AT
  rw [show ({ ({ k with b := b } : Wy) with ra := true } : Wy) = { ({ k with ra := true } : Wy) with b := b } from rfl, PL_b]
theorem PL_wL (S : St) (b : Nat) (K : Cp) (ad : BitVec 64) (sz : Int) (f : Option (BitVec 64 → BitVec 64)) : PL S (wL b K ad) sz f = PL S (wL 0 K ad) sz f := PL_b S (wL 0 K ad) b sz f
theorem PL_wS (S : St) (b : Nat) (K : Cp) (ad : BitVec 64) (sz : Int) (f : Option (BitVec 64 → BitVec 64)) : PL S (wS b K ad) sz f = PL S (wS 0 K ad) sz f := PL_b S (wS 0 K ad) b sz f
theorem AT_wL (S : St) (b : Nat) (K : Cp) (ad : BitVec 64) (sz : Int) (f : Option (BitVec 64 → BitVec 64)) : AT S (wL b K ad) sz f = AT S (wL 0 K ad) sz f := AT_b S (wL 0 K ad) b sz f
theorem AT_wS (S : St) (b : Nat) (K : Cp) (ad : BitVec 64) (sz : Int) (f : Option (BitVec 64 → BitVec 64)) : AT S (wS b K ad) sz f = AT S (wS 0 K ad) sz f := AT_b S (wS 0 K ad) b sz f
theorem AM_b (S : St) (K : Cp) (b : Nat) (op : Int) (ad v : BitVec 64) : AM S K b op ad v = AM S K 0 op ad v := by
  unfold AM
  rw [show ({ wS b K ad with r := 3 } : Wy) = { ({ wS 0 K ad with r := 3 } : Wy) with b := b } from rfl, AT_b]
theorem FT_b (S : St) (K : Cp) (b : Nat) : FT S K b = FT S K 0 := by
  have h1 : MV S (wF b K K.pc) 2 none = MV S (wF 0 K K.pc) 2 none := MV_b S (wF 0 K K.pc) b 2 none
  have h2 : ∀ T, MV T (wF b K (K.pc + 2#64)) 2 none = MV T (wF 0 K (K.pc + 2#64)) 2 none := fun T => MV_b T (wF 0 K (K.pc + 2#64)) b 2 none
  unfold FT
  rw [h1, h2]
def oz (k : Cp) : Ot := ⟨0, 0, 0, false, tN, k⟩
theorem zero_out (w : World) : (zeroValue 52).run Tryz.prog w = .ok (.agg (otc (oz cz))) w := by kernel_rfl
theorem info_out (o : Ot) : (Tryz.prog.info? 52).map (·.size) = some (otc o).size := by rw [otc_size]; kernel_rfl
theorem info_act (a : Acd) : (Tryz.prog.info? 45).map (·.size) = some (acc a).size := by kernel_rfl
theorem otc_sz (o p : Ot) : (otc o).size = (otc p).size := by rw [otc_size, otc_size]
/-- What an act answers, and the bus behind it. -/
def DO (S : St) (k : Cp) (a : Acd) : Ot × St :=
  if a.kd = 1 then (⟨(FT S (PR { k with pc := a.ad }) 0).raw, 0, (FT S (PR { k with pc := a.ad }) 0).n, false, (FT S (PR { k with pc := a.ad }) 0).t, { k with pc := a.ad }⟩, (FT S (PR { k with pc := a.ad }) 0).S)
  else if a.kd = 2 then (⟨n64 (PL S (wL 0 (PR k) a.ad) a.sz none).old, 0, 0, false, (PL S (wL 0 (PR k) a.ad) a.sz none).t, k⟩, (PL S (wL 0 (PR k) a.ad) a.sz none).S)
  else if a.kd = 3 then (⟨0, 0, 0, false, (PL S (wS 0 (PR k) a.ad) a.sz (some fun _ => a.v)).t, stK (PR k) (PL S (wS 0 (PR k) a.ad) a.sz (some fun _ => a.v)) a.ad a.sz⟩, (PL S (wS 0 (PR k) a.ad) a.sz (some fun _ => a.v)).S)
  else if a.kd = 4 then (⟨n64 (AT S (wL 0 (PR k) a.ad) a.sz none).old, 0, 0, false, (AT S (wL 0 (PR k) a.ad) a.sz none).t, rsK (PR k) (AT S (wL 0 (PR k) a.ad) a.sz none) a.ad a.sz⟩, (AT S (wL 0 (PR k) a.ad) a.sz none).S)
  else if a.kd = 5 then (⟨0, 0, 0, !(AT S (wS 0 (PR k) a.ad) a.sz (if hel (PR k) a.ad a.sz = true then some (fun _ => a.v) else none)).t.is && hel (PR k) a.ad a.sz, (AT S (wS 0 (PR k) a.ad) a.sz (if hel (PR k) a.ad a.sz = true then some (fun _ => a.v) else none)).t, if (AT S (wS 0 (PR k) a.ad) a.sz (if hel (PR k) a.ad a.sz = true then some (fun _ => a.v) else none)).t.is = true then PR k else nores (PR k)⟩, (AT S (wS 0 (PR k) a.ad) a.sz (if hel (PR k) a.ad a.sz = true then some (fun _ => a.v) else none)).S)
  else if a.kd = 6 then (⟨n64 (AM S (PR k) 0 a.op a.ad a.v).old, n64 (AM S (PR k) 0 a.op a.ad a.v).st, 0, false, (AM S (PR k) 0 a.op a.ad a.v).t, stK (PR k) (AM S (PR k) 0 a.op a.ad a.v) a.ad (amSz a.op)⟩, (AM S (PR k) 0 a.op a.ad a.v).S)
  else if a.kd = 7 then (oz k, S.beg (n64 a.v % 2 == 1) (decide (n64 a.v % 4 > 1)) false [n64 a.ad % 256])
  else (oz k, S)
theorem FT_wrap {S : St} {K : Cp} {b : Nat} (hs : Sok S) : IntKind.u64.wrap (FT S K b).raw = (FT S K b).raw := by
  have h1 : n64 (MV S (wF b K K.pc) 2 none).old < 65536 := MV_lt hs (by simp [wid4])
  have h2 : n64 (MV (MV S (wF b K K.pc) 2 none).S (wF b K (K.pc + 2#64)) 2 none).old < 65536 := MV_lt (MV_ok hs) (by simp [wid4])
  have l1 := n64_lo (MV S (wF b K K.pc) 2 none).old
  have l2 := n64_lo (MV (MV S (wF b K K.pc) 2 none).S (wF b K (K.pc + 2#64)) 2 none).old
  have q : 0 ≤ (FT S K b).raw ∧ (FT S K b).raw ≤ 4294967295 := by
    unfold FT FT2
    repeat' split
    all_goals simp only
    all_goals omega
  have e : IntKind.u64.wrap (FT S K b).raw = (FT S K b).raw % 18446744073709551616 := by
    unfold IntKind.wrap
    simp [IntKind.bits, IntKind.signed]
  rw [e]
  omega
set_option maxRecDepth 100000 in
set_option maxHeartbeats 2000000 in
theorem lworld_c (a : Acd) (w : World) : Calls Tryz.prog 19 #[.agg (acc a)] w fun e w' => ∃ g, w.heap.size ≤ g ∧ e = .returned (.agg #[.bool (n64 a.v % 2 == 1), .bool (decide (n64 a.v % 4 > 1)), .bool false, .slice (some ⟨g, 0, none⟩) 1 1]) ∧ Byt w' (.slice (some ⟨g, 0, none⟩) 1 1) [n64 a.ad % 256] ∧ Below w.heap.size w w' := by
  obtain ⟨W0, hW0, r0, r1, b0, s0⟩ := start2 w (acc a) #[.bool false, .bool false, .bool false, .slice none 0 0] 45 61
  have hz : ∀ w, (zeroValue 61).run Tryz.prog w = .ok (.agg #[.bool false, .bool false, .bool false, .slice none 0 0]) w := fun w => by kernel_rfl
  have c3 : W0.cell? ⟨w.heap.size, 3, none⟩ = some (.int .u64 (n64 a.ad)) := r0.out.cell 3
  have c4 : W0.cell? ⟨w.heap.size, 4, none⟩ = some (.int .u64 (n64 a.v)) := r0.out.cell 4
  have e1 : (n64 a.v).tmod 2 = n64 a.v % 2 := Int.tmod_eq_emod_of_nonneg (n64_lo _)
  have e2 : (n64 a.v).tmod 4 = n64 a.v % 4 := Int.tmod_eq_emod_of_nonneg (n64_lo _)
  have e3 : IntKind.u8.wrap (n64 a.ad) = n64 a.ad % 256 := by
    unfold IntKind.wrap
    simp [IntKind.bits, IntKind.signed]
  clear s0
  go_enter Tryz.func19, Tryz.ntmps19
  go_upto_region 1 with fail
  clear hW0
  go_wp2_with (refine wpList_store_row (by rfl) 61 _ _ (by rfl) (by rfl) (w.heap.size + 1) #[.bool false, .bool false, .bool false, .slice none 0 0] #[.bool (n64 a.v % 2 == 1), .bool (decide (n64 a.v % 4 > 1)), .bool false, .slice (some ⟨W0.heap.size, 0, none⟩) 1 1] (by rfl) (by rfl) (r1.out.later (below_al W0 _) r1.out.lt) (show (Tryz.prog.info? 61).map (·.size) = some 4 by kernel_rfl) (by rfl) (by kernel_rfl) ?_)
  refine bodyPost_ret (v := .agg #[.bool (n64 a.v % 2 == 1), .bool (decide (n64 a.v % 4 > 1)), .bool false, .slice (some ⟨W0.heap.size, 0, none⟩) 1 1]) (results_cell_row Tryz.results19 _ _ (w.heap.size + 1) 61 _ (0, 0) _ (by rfl) (setRow_heap _ _ _ _ _ _ (r1.out.later (below_al W0 _) r1.out.lt)) Tryz.underlying61 (by rfl) (show (Tryz.prog.info? 61).map (·.size) = some 4 by kernel_rfl)) rfl ?_
  refine ⟨W0.heap.size, b0.out.size, rfl, ?_, below_row (b0.out.trans ((below_al W0 _).mono b0.out.size)) (by omega) _⟩
  refine ⟨_, 1, rfl, Nat.le_refl _, (fun e => by cases e), fun _ => ⟨W0.heap.size, 0, rfl, by simp, fun j hj => ?_⟩⟩
  obtain rfl : j = 0 := by simp only [List.length_singleton] at hj; omega
  have hr : Row ((W0.alloc (.cells #[.int .u8 (n64 a.ad % 256)] 5)).setRow (w.heap.size + 1) #[.bool (n64 a.v % 2 == 1), .bool (decide (n64 a.v % 4 > 1)), .bool false, .slice (some ⟨W0.heap.size, 0, none⟩) 1 1]) W0.heap.size #[.int .u8 (n64 a.ad % 256)] 5 := (setRow_other _ _ _ _ (by have := r1.out.lt; omega)).trans (Row.new W0 _ _)
  exact hr.cell 0
end Go.Proofs.YtlhgphokfpnfeaaGreatDoor
namespace Go.Proofs.YtlhgphokfpnfeaaGreatDoor
set_option linter.unusedVariables false
open Go.ChangeShapes Go.WideShapes Go.ChangeAt Go.RowKit Go.Deep
theorem wpList_store_u64 {ops : Array Oper} {rest : List Oper} {o : Oper} {a : Act} {w : World} {Q : Exit → Act → World → Prop} (hgd : o.guard = none) (x y : Operand) (ho : o.op = .store 22 x y) (hd : o.dst = none)
    (g off : Nat) (z u : Int) (hx : a.eval x = .pointer (some ⟨g, off, none⟩)) (hy : a.eval y = .int .u64 z) (hc : w.cell? ⟨g, off, none⟩ = some (.int .u64 u)) (hf : w.frozen? ⟨g, off, none⟩ = false)
    (h : wpList Tryz.prog ops Q rest a (w.setCell ⟨g, off, none⟩ (.int .u64 z))) : wpList Tryz.prog ops Q (o :: rest) a w :=
  wpList_plain hgd fun _ hK => by
    unfold Oper.wp execOp
    simp only [ho, hx, hy]
    go_simp
    simpa [Oper.upon, Act.put, hd] using hK _ _ h
theorem fits7 {cs : Array Value} (h : cs.size = 89) (K : Cp) : 7 + (cpc K).size ≤ cs.size := by
  have q := cpc_size K
  omega
theorem fits4 {cs : Array Value} (h : cs.size = 89) (t : Tp) : 4 + (tpc t).size ≤ cs.size := by
  have q : (tpc t).size = 3 := rfl
  omega
theorem set_size {cs : Array Value} (h : cs.size = 89) (i : Nat) (v : Value) : (cs.setIfInBounds i v).size = 89 := by
  rw [Array.size_setIfInBounds, h]
end Go.Proofs.YtlhgphokfpnfeaaGreatDoor
