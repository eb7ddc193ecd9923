import Derived.Test.YtiffkbmppmejhaaGreatDoorK26
import Derived.Test.YtiffkbmppmejhaaGreatDoorK27
import Derived.Test.YtiffkbmppmejhaaGreatDoorK14
import Derived.Test.YtiffkbmppmejhaaGreatDoorK18
import Derived.Test.YtiffkbmppmejhaaGreatDoorK09
namespace Go.Proofs.YtiffkbmppmejhaaGreatDoor
set_option linter.unusedVariables false
set_option maxRecDepth 100000
set_option maxHeartbeats 8000000
open Go.ChangeShapes Go.WideShapes Go.ChangeAt Go.RowKit Go.Deep _root_.Go.Proofs.Tryz
structure Acd where
 kd : Int
 sz : Int
 op : Int
 ad : BitVec 64
 v : BitVec 64
def acc (a : Acd) : Array Value := #[.int .i64 a.kd, .int .i64 a.sz, .int .i64 a.op, .int .u64 (n64 a.ad), .int .u64 (n64 a.v)]
structure Ot where
 A : Int
 B : Int
 N : Int
 ok : Bool
 t : Tp
 K : Cp
def eG (o : Ot) (j : Nat) : Value :=
 if j = 0 then .int .u64 o.A else if j = 1 then .int .u64 o.B else if j = 2 then .int .i64 o.N else if j = 3 then .bool o.ok else if j = 4 then .bool o.t.is else if j = 5 then .int .u64 o.t.ca else if j = 6 then .int .u64 (n64 o.t.tv) else cD o.K (j - 7)
def otc (o : Ot) : Array Value := Array.ofFn (n := 89) fun j => eG o j.val
theorem bI (o : Ot) : (otc o).size = 89 := by simp [otc]
theorem cF (o : Ot) (j : Nat) (h : j < 89) : (otc o)[j]? = some (eG o j) := by simp [otc, h]
theorem sV (o : Ot) (j : Nat) : (eG o j).oneCell' = true := by
 unfold eG
 repeat' split
 all_goals first | rfl | exact mA _ _
theorem bT (o : Ot) : (otc o).all (·.oneCell') = true := by
 rw [Array.all_eq_true]; intro i hi; simp [otc]; exact sV _ _
theorem pA {cs : Array Value} {o : Ot} (hs : cs.size = 89) (h : ∀ j, j < 89 → cs[j]? = some (eG o j)) : cs = otc o := by
 apply Array.ext_getElem?
 intro j
 by_cases hj : j < 89
 ·rw [h j hj, cF o j hj]
 ·rw [Array.getElem?_eq_none (by omega), Array.getElem?_eq_none (by rw [bI]; omega)]
theorem pB (o p : Ot) (i : Nat) (hi : i < 89) (v : Value) (h : ∀ j, j < 89 → eG p j = if i = j then v else eG o j) : (otc o).setIfInBounds i v = otc p := by
 refine pA (by simp [bI]) fun j hj => ?_
 rw [Array.getElem?_setIfInBounds, h j hj]
 by_cases e : i = j
 ·subst e; rw [if_pos rfl, if_pos rfl, if_pos (by rw [bI]; exact hi)]
 ·rw [if_neg e, if_neg e, cF o j hj]
theorem nY (o : Ot) (a : Int) : (otc o).setIfInBounds 0 (.int .u64 a) = otc { o with A := a } := by
 refine pB _ _ _ (by omega) _ fun j hj => ?_
 unfold eG
 by_cases e : j = 0
 ·subst e; rfl
 ·simp [e, Ne.symm e]
theorem IZ (o : Ot) (a : Int) : (otc o).setIfInBounds 1 (.int .u64 a) = otc { o with B := a } := by
 refine pB _ _ _ (by omega) _ fun j hj => ?_
 unfold eG
 by_cases e : j = 1
 ·subst e; rfl
 ·simp [e, Ne.symm e]
theorem AB (o : Ot) (b : Bool) : (otc o).setIfInBounds 3 (.bool b) = otc { o with ok := b } := by
 refine pB _ _ _ (by omega) _ fun j hj => ?_
 unfold eG
 by_cases e : j = 3
 ·subst e; rfl
 ·simp [e, Ne.symm e]
theorem iV (o : Ot) (t : Tp) : iS (otc o) 4 (tpc t).toList = otc { o with t := t } := by
 refine pA (by rw [qV, bI]) fun j hj => ?_
 have hl : (tpc t).toList.length = 3 := rfl
 rw [lL _ _ _ _ (by rw [hl, bI]; omega), hl]
 by_cases h : 4 ≤ j ∧ j < 4 + 3
 ·rw [if_pos h]
  have q : j = 4 ∨ j = 5 ∨ j = 6 := by omega
  rcases q with rfl | rfl | rfl <;> rfl
 ·rw [if_neg h, cF o j hj]
  unfold eG
  have h4 : ¬ j = 4 := by omega
  have h5 : ¬ j = 5 := by omega
  have h6 : ¬ j = 6 := by omega
  simp [h4, h5, h6]
theorem kW (o : Ot) (K : Cp) : iS (otc o) 7 (cpc K).toList = otc { o with K := K } := by
 refine pA (by rw [qV, bI]) fun j hj => ?_
 have hl : (cpc K).toList.length = 82 := by rw [Array.length_toList, aD]
 rw [lL _ _ _ _ (by rw [hl, bI]; omega), hl]
 by_cases h : 7 ≤ j ∧ j < 7 + 82
 ·rw [if_pos h, Array.getElem?_toList, bJ K (j - 7) (by omega)]
  unfold eG
  rw [if_neg (by omega), if_neg (by omega), if_neg (by omega), if_neg (by omega), if_neg (by omega), if_neg (by omega), if_neg (by omega)]
 ·rw [if_neg h, cF o j hj]
  unfold eG
  have q : j = 0 ∨ j = 1 ∨ j = 2 ∨ j = 3 ∨ j = 4 ∨ j = 5 ∨ j = 6 := by omega
  rcases q with rfl | rfl | rfl | rfl | rfl | rfl | rfl <;> rfl
theorem FC {w : World} {g : Nat} {o : Ot} {t : TypeId} (h : Row w g (otc o) t) : ∀ j v, (cpc o.K)[j]? = some v → w.cell? ⟨g, 7 + j, none⟩ = some v := fun j v hv => by
 have hj : j < 82 := by
  by_cases q : j < 82
  ·exact q
  ·rw [Array.getElem?_eq_none (by rw [aD]; omega)] at hv; cases hv
 rw [h.cell, cF _ _ (by omega)]
 rw [bJ _ _ hj] at hv
 rw [← hv]
 unfold eG
 rw [if_neg (by omega), if_neg (by omega), if_neg (by omega), if_neg (by omega), if_neg (by omega), if_neg (by omega), if_neg (by omega), show 7 + j - 7 = j by omega]
theorem JF (S : St) (k : Wy) (b z : Nat) (f : Option (BitVec 64 → BitVec 64)) : MV S { k with b := b } z f = MV S k z f := by cases f <;> rfl
theorem JH (S : St) (k : Wy) (b : Nat) (sz : Int) (f : Option (BitVec 64 → BitVec 64)) : PL S { k with b := b } sz f = PL S k sz f := by
 unfold PL
 simp only [JF]
theorem JE (S : St) (k : Wy) (b : Nat) (sz : Int) (f : Option (BitVec 64 → BitVec 64)) : AT S { k with b := b } sz f = AT S k sz f := by
 unfold AT
 rw [show ({ ({ k with b := b } : Wy) with ra := true } : Wy) = { ({ k with ra := true } : Wy) with b := b } from rfl, JH]
theorem xW (S : St) (b : Nat) (K : Cp) (ad : BitVec 64) (sz : Int) (f : Option (BitVec 64 → BitVec 64)) : PL S (wL b K ad) sz f = PL S (wL 0 K ad) sz f := JH S (wL 0 K ad) b sz f
theorem IS (S : St) (b : Nat) (K : Cp) (ad : BitVec 64) (sz : Int) (f : Option (BitVec 64 → BitVec 64)) : PL S (wS b K ad) sz f = PL S (wS 0 K ad) sz f := JH S (wS 0 K ad) b sz f
theorem RG (S : St) (b : Nat) (K : Cp) (ad : BitVec 64) (sz : Int) (f : Option (BitVec 64 → BitVec 64)) : AT S (wL b K ad) sz f = AT S (wL 0 K ad) sz f := JE S (wL 0 K ad) b sz f
theorem RH (S : St) (b : Nat) (K : Cp) (ad : BitVec 64) (sz : Int) (f : Option (BitVec 64 → BitVec 64)) : AT S (wS b K ad) sz f = AT S (wS 0 K ad) sz f := JE S (wS 0 K ad) b sz f
theorem AM_b (S : St) (K : Cp) (b : Nat) (op : Int) (ad v : BitVec 64) : AM S K b op ad v = AM S K 0 op ad v := by
 unfold AM
 rw [show ({ wS b K ad with r := 3 } : Wy) = { ({ wS 0 K ad with r := 3 } : Wy) with b := b } from rfl, JE]
theorem RK (S : St) (K : Cp) (b : Nat) : FT S K b = FT S K 0 := by
 have h1 : MV S (wF b K K.pc) 2 none = MV S (wF 0 K K.pc) 2 none := JF S (wF 0 K K.pc) b 2 none
 have h2 : ∀ T, MV T (wF b K (K.pc + 2#64)) 2 none = MV T (wF 0 K (K.pc + 2#64)) 2 none := fun T => JF T (wF 0 K (K.pc + 2#64)) b 2 none
 unfold FT
 rw [h1, h2]
def oz (k : Cp) : Ot := ⟨0, 0, 0, false, tN, k⟩
theorem jY (w : World) : (zeroValue 52).run prog w = .ok (.agg (otc (oz cz))) w := by kernel_rfl
theorem aZ (o : Ot) : (prog.info? 52).map (·.size) = some (otc o).size := by rw [bI]; kernel_rfl
theorem jN (a : Acd) : (prog.info? 55).map (·.size) = some (acc a).size := by kernel_rfl
theorem cS (o p : Ot) : (otc o).size = (otc p).size := by rw [bI, bI]
def DO (S : St) (k : Cp) (a : Acd) : Ot × St :=
 if a.kd = 1 then (⟨(FT S (PR { k with pc := a.ad }) 0).raw, 0, (FT S (PR { k with pc := a.ad }) 0).n, false, (FT S (PR { k with pc := a.ad }) 0).t, { k with pc := a.ad }⟩, (FT S (PR { k with pc := a.ad }) 0).S)
 else if a.kd = 2 then (⟨n64 (PL S (wL 0 (PR k) a.ad) a.sz none).old, 0, 0, false, (PL S (wL 0 (PR k) a.ad) a.sz none).t, k⟩, (PL S (wL 0 (PR k) a.ad) a.sz none).S)
 else if a.kd = 3 then (⟨0, 0, 0, false, (PL S (wS 0 (PR k) a.ad) a.sz (some fun _ => a.v)).t, stK (PR k) (PL S (wS 0 (PR k) a.ad) a.sz (some fun _ => a.v)) a.ad a.sz⟩, (PL S (wS 0 (PR k) a.ad) a.sz (some fun _ => a.v)).S)
 else if a.kd = 4 then (⟨n64 (AT S (wL 0 (PR k) a.ad) a.sz none).old, 0, 0, false, (AT S (wL 0 (PR k) a.ad) a.sz none).t, rsK (PR k) (AT S (wL 0 (PR k) a.ad) a.sz none) a.ad a.sz⟩, (AT S (wL 0 (PR k) a.ad) a.sz none).S)
 else if a.kd = 5 then (⟨0, 0, 0, !(AT S (wS 0 (PR k) a.ad) a.sz (if hel (PR k) a.ad a.sz = true then some (fun _ => a.v) else none)).t.is && hel (PR k) a.ad a.sz, (AT S (wS 0 (PR k) a.ad) a.sz (if hel (PR k) a.ad a.sz = true then some (fun _ => a.v) else none)).t, if (AT S (wS 0 (PR k) a.ad) a.sz (if hel (PR k) a.ad a.sz = true then some (fun _ => a.v) else none)).t.is = true then PR k else nores (PR k)⟩, (AT S (wS 0 (PR k) a.ad) a.sz (if hel (PR k) a.ad a.sz = true then some (fun _ => a.v) else none)).S)
 else if a.kd = 6 then (⟨n64 (AM S (PR k) 0 a.op a.ad a.v).old, n64 (AM S (PR k) 0 a.op a.ad a.v).st, 0, false, (AM S (PR k) 0 a.op a.ad a.v).t, stK (PR k) (AM S (PR k) 0 a.op a.ad a.v) a.ad (dA a.op)⟩, (AM S (PR k) 0 a.op a.ad a.v).S)
 else if a.kd = 7 then (oz k, S.beg (n64 a.v % 2 == 1) (decide (n64 a.v % 4 > 1)) false [n64 a.ad % 256])
 else (oz k, S)
theorem tO {S : St} {K : Cp} {b : Nat} (hs : Sok S) : IntKind.u64.wrap (FT S K b).raw = (FT S K b).raw := by
 have h1 : n64 (MV S (wF b K K.pc) 2 none).old < 65536 := lV hs (by simp [cC])
 have h2 : n64 (MV (MV S (wF b K K.pc) 2 none).S (wF b K (K.pc + 2#64)) 2 none).old < 65536 := lV (jG hs) (by simp [cC])
 have l1 := bB (MV S (wF b K K.pc) 2 none).old
 have l2 := bB (MV (MV S (wF b K K.pc) 2 none).S (wF b K (K.pc + 2#64)) 2 none).old
 have q : 0 ≤ (FT S K b).raw ∧ (FT S K b).raw ≤ 4294967295 := by
  unfold FT FT2
  repeat' split
  all_goals simp only
  all_goals omega
 have e : IntKind.u64.wrap (FT S K b).raw = (FT S K b).raw % 18446744073709551616 := by
  unfold IntKind.wrap
  simp [IntKind.bits, IntKind.signed]
 rw [e]
 omega
theorem qW (a : Acd) (w : World) : Calls prog 30 #[.agg (acc a)] w fun e w' => ∃ g, w.heap.size ≤ g ∧ e = .returned (.agg #[.bool (n64 a.v % 2 == 1), .bool (decide (n64 a.v % 4 > 1)), .bool false, .slice (some ⟨g, 0, none⟩) 1 1]) ∧ Byt w' (.slice (some ⟨g, 0, none⟩) 1 1) [n64 a.ad % 256] ∧ Below w.heap.size w w' := by
 obtain ⟨W0, hW0, r0, r1, b0, s0⟩ := cJ w (acc a) #[.bool false, .bool false, .bool false, .slice none 0 0] 55 105
 have hz : ∀ w, (zeroValue 105).run prog w = .ok (.agg #[.bool false, .bool false, .bool false, .slice none 0 0]) w := fun w => by kernel_rfl
 have c3 : W0.cell? ⟨w.heap.size, 3, none⟩ = some (.int .u64 (n64 a.ad)) := r0.out.cell 3
 have c4 : W0.cell? ⟨w.heap.size, 4, none⟩ = some (.int .u64 (n64 a.v)) := r0.out.cell 4
 have e1 : (n64 a.v).tmod 2 = n64 a.v % 2 := Int.tmod_eq_emod_of_nonneg (bB _)
 have e2 : (n64 a.v).tmod 4 = n64 a.v % 4 := Int.tmod_eq_emod_of_nonneg (bB _)
 have e3 : IntKind.u8.wrap (n64 a.ad) = n64 a.ad % 256 := by
  unfold IntKind.wrap
  simp [IntKind.bits, IntKind.signed]
 clear s0
 go_enter func30, ntmps30
 go_upto_region 1 with fail
 clear hW0
 go_wp2_with (refine wpList_store_row (by rfl) 105 _ _ (by rfl) (by rfl) (w.heap.size + 1) #[.bool false, .bool false, .bool false, .slice none 0 0] #[.bool (n64 a.v % 2 == 1), .bool (decide (n64 a.v % 4 > 1)), .bool false, .slice (some ⟨W0.heap.size, 0, none⟩) 1 1] (by rfl) (by rfl) (r1.out.later (aI W0 _) r1.out.lt) (show (prog.info? 105).map (·.size) = some 4 by kernel_rfl) (by rfl) (by kernel_rfl) ?_)
 refine bodyPost_ret (v := .agg #[.bool (n64 a.v % 2 == 1), .bool (decide (n64 a.v % 4 > 1)), .bool false, .slice (some ⟨W0.heap.size, 0, none⟩) 1 1]) (results_cell_row results30 _ _ (w.heap.size + 1) 105 _ (0, 0) _ (by rfl) (setRow_heap _ _ _ _ _ _ (r1.out.later (aI W0 _) r1.out.lt)) underlying105 (by rfl) (show (prog.info? 105).map (·.size) = some 4 by kernel_rfl)) rfl ?_
 refine ⟨W0.heap.size, b0.out.size, rfl, ?_, bC (b0.out.trans ((aI W0 _).mono b0.out.size)) (by omega) _⟩
 refine ⟨_, 1, rfl, Nat.le_refl _, (fun e => by cases e), fun _ => ⟨W0.heap.size, 0, rfl, by simp, fun j hj => ?_⟩⟩
 obtain rfl : j = 0 := by simp only [List.length_singleton] at hj; omega
 have hr : Row ((W0.alloc (.cells #[.int .u8 (n64 a.ad % 256)] 5)).setRow (w.heap.size + 1) #[.bool (n64 a.v % 2 == 1), .bool (decide (n64 a.v % 4 > 1)), .bool false, .slice (some ⟨W0.heap.size, 0, none⟩) 1 1]) W0.heap.size #[.int .u8 (n64 a.ad % 256)] 5 := (setRow_other _ _ _ _ (by have := r1.out.lt; omega)).trans (Row.new W0 _ _)
 exact hr.cell 0
theorem AC (o : Ot) : (otc o).extract 4 (4 + 3) = tpc o.t := by
 apply Array.ext_getElem?
 intro j
 rw [Array.getElem?_extract]
 match j with
 | 0 => rw [if_pos (by rw [bI]; omega), cF _ _ (by omega)]; rfl
 | 1 => rw [if_pos (by rw [bI]; omega), cF _ _ (by omega)]; rfl
 | 2 => rw [if_pos (by rw [bI]; omega), cF _ _ (by omega)]; rfl
 | j + 3 => rw [if_neg (by rw [bI]; omega)]; rfl
theorem AA (o : Ot) : (otc o).extract 7 (7 + 82) = cpc o.K := by
 apply Array.ext_getElem?
 intro j
 rw [Array.getElem?_extract]
 by_cases h : j < 82
 ·rw [if_pos (by rw [bI]; omega), cF _ _ (by omega), bJ _ _ h]
  unfold eG
  rw [if_neg (by omega), if_neg (by omega), if_neg (by omega), if_neg (by omega), if_neg (by omega), if_neg (by omega), if_neg (by omega), show 7 + j - 7 = j by omega]
 ·rw [if_neg (by rw [bI]; omega), Array.getElem?_eq_none (by rw [aD]; omega)]
theorem yN (w : World) (d : Nat) (t u : Tp) : Cmp prog w (d + 2) 50 (.agg (tpc t)) (.agg (tpc u)) (t.is = u.is ∧ t.ca = u.ca ∧ t.tv = u.tv ∧ True) := by
 refine Cmp.struct underlying50 (by kernel_rfl) ?_
 refine dH.cons (by decide) (run_part_plain w (by kernel_rfl) rfl) (run_part_plain w (by kernel_rfl) rfl) (Cmp.bool underlying4) ?_
 refine dH.cons (by decide) (run_part_plain w (by kernel_rfl) rfl) (run_part_plain w (by kernel_rfl) rfl) (Cmp.int underlying22) ?_
 refine dH.cons (by decide) (run_part_plain w (by kernel_rfl) rfl) (run_part_plain w (by kernel_rfl) rfl) ((Cmp.int underlying22).iff bR) ?_
 exact dH.nil
theorem DR (w : World) (d : Nat) (o p : Ot) : Cmp prog w (d + 5) 52 (.agg (otc o)) (.agg (otc p)) (o.A = p.A ∧ o.B = p.B ∧ o.N = p.N ∧ o.ok = p.ok ∧ (o.t.is = p.t.is ∧ o.t.ca = p.t.ca ∧ o.t.tv = p.t.tv ∧ True) ∧ cpc o.K = cpc p.K ∧ True) := by
 refine Cmp.struct underlying52 (by kernel_rfl) ?_
 refine dH.cons (by decide) (run_part_plain w (by kernel_rfl) (cF o 0 (by omega))) (run_part_plain w (by kernel_rfl) (cF p 0 (by omega))) (Cmp.int underlying22) ?_
 refine dH.cons (by decide) (run_part_plain w (by kernel_rfl) (cF o 1 (by omega))) (run_part_plain w (by kernel_rfl) (cF p 1 (by omega))) (Cmp.int underlying22) ?_
 refine dH.cons (by decide) (run_part_plain w (by kernel_rfl) (cF o 2 (by omega))) (run_part_plain w (by kernel_rfl) (cF p 2 (by omega))) (Cmp.int underlying3) ?_
 refine dH.cons (by decide) (run_part_plain w (by kernel_rfl) (cF o 3 (by omega))) (run_part_plain w (by kernel_rfl) (cF p 3 (by omega))) (Cmp.bool underlying4) ?_
 refine dH.cons (by decide) (eC underlying50 rfl (by kernel_rfl)) (eC underlying50 rfl (by kernel_rfl)) (by rw [AC, AC]; exact yN w (d + 2) _ _) ?_
 refine dH.cons (by decide) (eC underlying31 rfl (by kernel_rfl)) (eC underlying31 rfl (by kernel_rfl)) (by rw [AA, AA]; exact DQ w d _ _) ?_
 exact dH.nil
theorem JV (w : World) (o : Ot) : (Op.equalIn 10000 52 (.agg (otc o)) (.agg (otc o))).run prog w = .ok true w := by
 obtain ⟨r, hr, h⟩ := DR w 9995 o o
 rw [hr, h.2 ⟨rfl, rfl, rfl, rfl, ⟨rfl, rfl, rfl, trivial⟩, rfl, trivial⟩]
structure Kx (B : Nat) (w0 : World) (b c : Nat) (L : Lay) (S T : St) (vr vi vo : Value) (w : World) : Prop where
 m : Md B L c S T vr vi vo w
 e : L.b = b
 be : Below B w0 w
structure Kr (B : Nat) (L : Lay) (c : Nat) (vr vi vo : Value) (w : World) (g : Nat) (cs : Array Value) (t : TypeId) : Prop where
 r : Row w g cs t
 n1 : ¬ L.own g
 n2 : ¬ eU c vr vi vo g
 ge : B ≤ g
section
variable {B : Nat} {w0 : World} {b c g g' : Nat} {L L1 : Lay} {S T S1 : St} {vr vi vo ur ui uo : Value} {w w' : World} {cs cs' : Array Value} {t t' : TypeId}
theorem Kx.lt (h : Kx B w0 b c L S T vr vi vo w) : B ≤ w.heap.size := Nat.le_trans h.m.r.l (Nat.le_of_lt h.m.r.lt)
theorem Kx.later (h : Kx B w0 b c L S T vr vi vo w) (hb : Below w.heap.size w w') : Kx B w0 b c L S T vr vi vo w' := ⟨h.m.later hb, h.e, h.be.trans (hb.mono h.lt)⟩
theorem Kr.later (h : Kr B L c vr vi vo w g cs t) (hb : Below w.heap.size w w') : Kr B L c vr vi vo w' g cs t := ⟨h.r.later hb h.r.lt, h.n1, h.n2, h.ge⟩
theorem Kx.stepP (h : Kx B w0 b c L S T vr vi vo w) (hs : PSt B L w L1 S1 w') : Kx B w0 b c L1 S1 T vr vi vo w' := ⟨h.m.stepP hs, hs.b.1.trans h.e, h.be.trans (PSt.below h.m hs)⟩
theorem Kx.stepR (h : Kx B w0 b c L S T vr vi vo w) (hs : RSt B c vr vi vo w ur ui uo S1 w') : Kx B w0 b c L S S1 ur ui uo w' := ⟨h.m.stepR hs, h.e, h.be.trans (RSt.below h.m hs)⟩
theorem Kr.stepP (h : Kr B L c vr vi vo w g cs t) (hs : PSt B L w L1 S1 w') : Kr B L1 c vr vi vo w' g cs t :=
 ⟨(hs.x.block g h.r.lt h.n1).trans h.r, fun e => by rcases hs.o g e with q | q; exact h.n1 q; have := h.r.lt; omega, h.n2, h.ge⟩
theorem Kr.stepR (h : Kr B L c vr vi vo w g cs t) (hs : RSt B c vr vi vo w ur ui uo S1 w') : Kr B L c ur ui uo w' g cs t :=
 ⟨(hs.x.block g h.r.lt h.n2).trans h.r, h.n1, fun e => by rcases hs.o g e with q | q; exact h.n2 q; have := h.r.lt; omega, h.ge⟩
theorem Kr.new (h : Kx B w0 b c L S T vr vi vo w) (cs : Array Value) (t : TypeId) : Kr B L c vr vi vo (w.alloc (.cells cs t)) w.heap.size cs t :=
 ⟨Row.new w cs t, fun e => by have := h.m.p.own_hi _ e; omega, fun e => by have := (dT h.m.r e).2; omega, h.lt⟩
theorem Kx.row (h : Kx B w0 b c L S T vr vi vo w) (k : Kr B L c vr vi vo w g cs t) (cs' : Array Value) : Kx B w0 b c L S T vr vi vo (w.setRow g cs') :=
 ⟨⟨h.m.p.exo (G := fun j => j = g) ⟨rfl, rfl, rfl, by simp, fun j hj hne => setRow_other _ _ _ _ hne⟩ (fun j hj e => k.n1 (e ▸ hj)), h.m.r.exo (G := fun j => j = g) ⟨rfl, rfl, rfl, by simp, fun j hj hne => setRow_other _ _ _ _ hne⟩ (fun j hj e => k.n2 (e ▸ hj)), h.m.ap⟩, h.e, bC h.be k.ge _⟩
theorem Kr.put (k : Kr B L c vr vi vo w g cs t) (cs' : Array Value) : Kr B L c vr vi vo (w.setRow g cs') g cs' t := ⟨setRow_heap _ _ _ _ _ _ k.r, k.n1, k.n2, k.ge⟩
theorem Kr.far (k : Kr B L c vr vi vo w g cs t) (hne : g ≠ g') (cs' : Array Value) : Kr B L c vr vi vo (w.setRow g' cs') g cs t := ⟨(setRow_other _ _ _ _ hne).trans k.r, k.n1, k.n2, k.ge⟩
theorem Kx.drew (h : Kx B w0 b c L S T vr vi vo w) : Kx B w0 b c L S T vr vi vo w.drew := h.later (Below.refl _ _).drew
theorem Kr.drew (h : Kr B L c vr vi vo w g cs t) : Kr B L c vr vi vo w.drew g cs t := h.later (Below.refl _ _).drew
end
def scc (K : Cp) (S : St) (vr vi vo va : Value) : Array Value := ((cpc K).toList ++ ((stc S vr vi vo).toList ++ [va])).toArray
theorem TH (K : Cp) (S : St) (vr vi vo va : Value) (j : Nat) (v : Value) (h : (cpc K)[j]? = some v) : (scc K S vr vi vo va)[0 + j]? = some v := by
 have hj : j < 82 := by
  by_cases q : j < 82
  ·exact q
  ·rw [Array.getElem?_eq_none (by rw [aD]; omega)] at h; cases h
 unfold scc
 rw [Nat.zero_add, List.getElem?_toArray, List.getElem?_append_left (by rw [Array.length_toList, aD]; exact hj), Array.getElem?_toList]
 exact h
theorem JB (K : Cp) (S : St) (vr vi vo va : Value) (j : Nat) (v : Value) (h : (stc S vr vi vo)[j]? = some v) : (scc K S vr vi vo va)[82 + j]? = some v := by
 have hj : j < 15 := by
  by_cases q : j < 15
  ·exact q
  ·rw [Array.getElem?_eq_none (by show 15 ≤ j; omega)] at h; cases h
 unfold scc
 rw [List.getElem?_toArray, List.getElem?_append_right (by rw [Array.length_toList, aD]; omega), Array.length_toList, aD, show 82 + j - 82 = j by omega, List.getElem?_append_left (by rw [Array.length_toList]; exact hj), Array.getElem?_toList]
 exact h
theorem TG (K : Cp) (S : St) (vr vi vo va : Value) : (scc K S vr vi vo va)[97]? = some va := by
 unfold scc
 rw [List.getElem?_toArray, List.getElem?_append_right (by rw [Array.length_toList, aD]; omega), Array.length_toList, aD, List.getElem?_append_right (by rw [Array.length_toList]; exact Nat.le_refl 15), Array.length_toList]
 rfl
def pL (w : World) (v : Value) (O : List Acd) : Prop :=
 ∃ a cap, v = .slice a O.length cap ∧ O.length ≤ cap ∧ (O ≠ [] → ∃ g off, a = some ⟨g, off, none⟩ ∧ g < w.heap.size ∧ ∀ j, j < O.length → ∀ i, i < 5 → w.cell? ⟨g, off + j * 5 + i, none⟩ = (acc (O.getD j ⟨0, 0, 0, 0#64, 0#64⟩))[i]?)
theorem jO (S : St) (vr vi vo : Value) : (prog.info? 35).map (·.size) = some (stc S vr vi vo).size := by kernel_rfl
theorem TD (n : Nat) (w : World) (h : fE n = true) : Calls prog 22 #[.int .i64 n] w fun e w' => ∃ L, e = .returned (.tuple #[.pointer (some ⟨L.b, 0, none⟩), .int .i64 0]) ∧ PB w.heap.size L (St.zero n) w' ∧ Below w.heap.size w w' := by
 have hC := kU n
 rw [h] at hC
 have hn : n ≤ 65536 := by simp [fE] at h; omega
 obtain ⟨i0, hi, hz0, hz1, hz2⟩ := info_parts kT
 have HI := hid hi
 have HZ0 := hid hz0
 have HZ1 := hid hz1
 have HZ2 := hid hz2
 clear hi hz0 hz1 hz2
 have HF : Hid (∀ w1, Byt w1 (.slice (some ⟨w.heap.size, 0, none⟩) n n) (List.replicate n 0) → Calls prog 10 #[.agg #[.slice (some ⟨w.heap.size, 0, none⟩) n n, .int .u32 0, .int .u64 18446744073709551615, .int .u64 0, .bool false, .bool false, .int .u8 0, .int .u8 0, .int .u8 0, .int .u8 0, .bool false, .slice none 0 0, .slice none 0 0, .int .i64 0, .int .i64 0]] w1
   fun e w' => ∃ L, e = .returned (.tuple #[pt L.b, .int .i64 0]) ∧ PB w1.heap.size L (St.zero n) w' ∧ Below w1.heap.size w1 w') := fun w1 hb => by
  have := yZ (St.zero n) (some ⟨w.heap.size, 0, none⟩) none none n 0 0 w1 (St.zero_ok h) (by simpa [St.zero] using hb) (Byt.nil w1) (Byt.nil w1) (by simp [St.zero]; omega) (by simp [St.zero]) (by simp [St.zero])
  simpa [stc, St.zero] using this
 go_enter func22, ntmps22
 go_wp2_with (first | (go_at_call 40; refine (hC _).mono ?_; rintro e w1 ⟨rfl, hw⟩; have hw2 := hw.symm; subst hw2) | (at_make; refine wpList_make_full _ (by rfl) _ _ 32 (by rfl) w.heap.size 5 i0 (.int .u8 0) 1 underlying32 HI.out HZ0.out HZ1.out _ _ _ _ n (by rfl) (by rfl) (by omega) (by omega) (by rw [HZ2.out]; omega) (by unfold maxLen; omega) (Nat.le_refl _) ?_; intro w1 hown hgrow; rw [show (Value.int .u8 0).cells = #[Value.int .u8 0] from rfl, lM] at hown; have HO : Hid _ := hown; have HB : Hid (Below w.heap.size w w1) := (Below.refl _ _).grown hgrow (Nat.le_refl _) (fun k hk => by cases hk); clear hown hgrow) | (go_at_call 10; refine (HF.out _ (Byt.of_own HO.out)).mono ?_; rintro e w2 ⟨L, rfl, hpb, hb2⟩; simp only [pt]; have HP : Hid _ := hpb; have HB2 : Hid _ := hb2; clear hpb hb2))
 go_ret2
 exact ⟨L, rfl, HP.out.le HB.out.size, HB.out.trans (HB2.out.mono HB.out.size)⟩
end Go.Proofs.YtiffkbmppmejhaaGreatDoor
