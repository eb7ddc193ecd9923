/-
  Pbp Pbe Pop.
-/
import Derived.Test.YtidfndgedopghaaGreatDoorQ06
import Derived.ChangeKeysEq
import Derived.SizedLaws
import Derived.OpenShut
namespace Go.Proofs.YtidfndgedopghaaGreatDoor
set_option linter.unusedVariables false
open Go.ChangeShapes Go.WideShapes Go.ChangeAt Go.RowKit Go.Deep
theorem start1 (w : World) (cs : Array Value) (t : TypeId) : ∃ W, w.alloc (.cells cs t) = W ∧ Hid (Row W w.heap.size cs t) ∧ Hid (Below w.heap.size w W) ∧ W.heap.size = w.heap.size + 1 :=
  ⟨_, rfl, Row.new _ _ _, (Below.refl _ _).alloc (Nat.le_refl _) _, by simp⟩
theorem start2 (w : World) (cs cs' : Array Value) (t t' : TypeId) : ∃ W, (w.alloc (.cells cs t)).alloc (.cells cs' t') = W ∧ Hid (Row W w.heap.size cs t) ∧ Hid (Row W (w.heap.size + 1) cs' t') ∧ Hid (Below w.heap.size w W) ∧ W.heap.size = w.heap.size + 2 :=
  ⟨_, rfl, (Row.new _ _ _).old (by simp) _, by have := Row.new (w.alloc (.cells cs t)) cs' t'; simpa [Hid] using this, ((Below.refl _ _).alloc (Nat.le_refl _) _).alloc (by simp) _, by simp⟩
def pz : Array Value := pc (fun _ => 0#8) (fun _ => 0#64)
theorem pz_size : pz.size = 32 := pc_size _ _
/-- The entries that are proper. -/
def PC (c : Nat → BitVec 8) : Nat → BitVec 8 := fun j => pcl (c j)
def PA (a : Nat → BitVec 64) : Nat → BitVec 64 := fun j => pad (a j)
theorem of_p (c : Nat → BitVec 8) (a : Nat → BitVec 64) (w : World) :
    Calls Tryz.prog 53 #[.agg (pc c a)] w fun e w' => e = .returned (.agg (ec (PC c) (PA a))) ∧ Below w.heap.size w w' := of_c c a w
set_option maxRecDepth 100000 in
set_option maxHeartbeats 1000000 in
theorem Proper_c (c : Nat → BitVec 8) (a : Nat → BitVec 64) (w : World) :
    Calls Tryz.prog 49 #[.agg (pc c a)] w fun e w' => e = .returned (.agg (pc (PC c) (PA a))) ∧ Below w.heap.size w w' := by
  obtain ⟨W0, hW0, r0, r1, b0, s0⟩ := start2 w (pc c a) pz 28 28
  have HS : Hid (W0.heap.size = w.heap.size + 2) := s0
  clear s0
  go_enter Tryz.func49, Tryz.ntmps49
  go_upto_region 1 with fail
  rw [pc_zero, ← pz, hW0]
  clear hW0
  go_wp2_with (first | (refine wpList_load_row (by rfl) _ _ (by rfl) _ (by rfl) 28 _ (0, 0) _ r0.out Tryz.underlying28 (by rfl) (by rw [pc_size]; kernel_rfl) ?_) | (go_at_call 53; refine (of_p c a _).mono ?_; rintro e w1 ⟨rfl, hb1⟩; have HB1 : Hid (Below W0.heap.size W0 w1) := hb1; clear hb1) | (go_at_call 129; refine (told_c (PC c) (PA a) _ _ (Row.new _ _ _)).mono ?_; rintro e w2 ⟨rfl, hb2⟩; have HB2 : Hid (Below w1.heap.size w1 w2) := (Below.alloc (Below.refl _ _) (Nat.le_refl _) _).trans (hb2.mono (by simp)); clear hb2) | (refine wpList_store_row (by rfl) _ _ _ (by rfl) (by rfl) _ _ _ (by rfl) (by rfl) ((r1.out.later HB1.out (by rw [HS.out]; omega)).later HB2.out (Nat.lt_of_lt_of_le (by rw [HS.out]; omega) HB1.out.size)) (by rw [pc_size]; kernel_rfl) (by rw [pc_size, pz_size]) (pc_ones _ _) ?_) | (refine wpList_store_new (by rfl) _ _ _ (by rfl) (by rfl) _ _ (by rfl) (by rfl) (by rw [ec_size]; kernel_rfl) (by rw [ec_size]; rfl) (ec_ones _ _) ?_))
  have h9 : Row w2 (w.heap.size + 1) pz 28 := (r1.out.later HB1.out (by rw [HS.out]; omega)).later HB2.out (Nat.lt_of_lt_of_le (by rw [HS.out]; omega) HB1.out.size)
  refine bodyPost_ret (v := .agg (pc (PC c) (PA a))) ?_ rfl ⟨rfl, ?_⟩
  · exact results_cell_row Tryz.results49 _ _ (w.heap.size + 1) 28 _ (0, 0) _ (by rfl) (setRow_heap _ _ _ _ _ _ h9) Tryz.underlying28 (by rfl) (by rw [pc_size]; kernel_rfl)
  · exact below_row ((b0.out.trans (HB1.out.mono (by rw [HS.out]; omega))).trans (HB2.out.mono (Nat.le_trans (by rw [HS.out]; omega) HB1.out.size))) (by omega) _
set_option maxRecDepth 100000 in
set_option maxHeartbeats 1000000 in
theorem rProper_c (c : Nat → BitVec 8) (a : Nat → BitVec 64) (w : World) :
    Calls Tryz.prog 47 #[.agg (pc c a)] w fun e w' => e = .returned (.agg (pc (PC c) (PA a))) ∧ Below w.heap.size w w' := by
  go_enter Tryz.func47, Tryz.ntmps47
  go_wp2
  rw [pc_zero, ← pz]
  go_loopw [3] (fun i wr => ∃ k : Nat, k ≤ 16 ∧ i = .int .i64 k ∧ Hid (Row wr w.heap.size (pc (upto k (PC c) c) (upto k (PA a) a)) 28) ∧ Hid (Row wr (w.heap.size + 1) pz 28) ∧ Hid (Below w.heap.size w wr)) (fun i _ => 16 - (intOf i).toNat)
  case atStart =>
    obtain ⟨W0, hW0, r0, r1, b0, s0⟩ := start2 w (pc c a) pz 28 28
    rw [hW0]
    refine ⟨0, by omega, rfl, ?_, r1, b0⟩
    rw [upto_zero, upto_zero]
    exact r0
  case round =>
    obtain ⟨k, hk, rfl, h0, h1, hb⟩ := hrel
    by_cases hlt : k < 16
    · have hlt2 : (k : Int) < 16 := by omega
      have c0 : wr.cell? ⟨w.heap.size, k, none⟩ = some (.int .u8 (n8 (c k))) := by rw [h0.out.cell, pc_at _ _ _ (by omega), pcell, if_pos hlt, upto, if_neg (by omega)]
      have c1 : wr.cell? ⟨w.heap.size, 16 + k, none⟩ = some (.int .u64 (n64 (a k))) := by rw [h0.out.cell, pc_at _ _ _ (by omega), pcell, if_neg (by omega), Nat.add_sub_cancel_left, upto, if_neg (by omega)]
      have f0 := h0.out.froz k
      have f1 := h0.out.froz (16 + k)
      have hp := n64_pad (a k)
      have ne1 : ¬ 16 + k = k := by omega
      have ne2 : ¬ k = 16 + k := by omega
      go_wp2_with (go_at_call 127; refine (cleaned_c (c k) _).mono ?_; rintro e w1 ⟨rfl, hw⟩; have hw2 := hw.symm; subst hw2)
      go_roundw
      case rel =>
        refine ⟨k + 1, by omega, by go_num, ?_, ?_, ?_⟩
        · have h := Row.put (i := 16 + k) (Row.put (i := k) h0.out (.int .u8 (n8 (PC c k)))) (.int .u64 (n64 (PA a k)))
          rw [pc_cfg _ _ _ _ hlt, pc_addr _ _ _ _ hlt, upto_succ k (PC c), upto_succ k (PA a)] at h
          exact h
        · exact Row.other (Row.other h1.out (by omega) _) (by omega) _
        · exact below_put (below_put hb.out (by omega) _) (by omega) _
      case measure => simp [intOf]; omega
    · obtain rfl : k = 16 := by omega
      have e16 : ((16 : Nat) : Int) = 16 := rfl
      rw [e16]
      clear hk hlt
      have he : pc (upto 16 (PC c) c) (upto 16 (PA a) a) = pc (PC c) (PA a) := pc_congr fun j hj => by simp [upto, hj]
      rw [he] at h0
      clear he
      go_wp2_with (first | (refine wpList_load_row (by rfl) _ _ (by rfl) _ (by rfl) 28 _ (0, 0) _ h0.out Tryz.underlying28 (by rfl) (by rw [pc_size]; kernel_rfl) ?_) | (refine wpList_store_row (by rfl) _ _ _ (by rfl) (by rfl) _ _ _ (by rfl) (by rfl) h1.out (by rw [pc_size]; kernel_rfl) (by rw [pc_size, pz_size]) (pc_ones _ _) ?_))
      refine bodyPost_ret (v := .agg (pc (PC c) (PA a))) ?_ rfl ⟨rfl, ?_⟩
      · exact results_cell_row Tryz.results47 _ _ (w.heap.size + 1) 28 _ (0, 0) _ (by rfl) (setRow_heap _ _ _ _ _ _ h1.out) Tryz.underlying28 (by rfl) (by rw [pc_size]; kernel_rfl)
      · exact below_row hb.out (by omega) _
end Go.Proofs.YtidfndgedopghaaGreatDoor
namespace Go.Proofs.YtidfndgedopghaaGreatDoor
set_option linter.unusedVariables false
open Go.ChangeShapes Go.WideShapes Go.ChangeAt Go.RowKit Go.Deep
theorem items_refl {P : Program} (w : World) (d : Nat) (e : TypeId) (kk : IntKind) (he : P.underlying e = some (.int kk)) (xs : Array Value) (c : Nat) : ∀ is : List Nat, (∀ i ∈ is, ∃ k n, (part e xs (i * c)).run P w = .ok (.int k n) w) →
    (Op.eqItems (d + 1) e c xs xs is).run P w = .ok true w
  | [], _ => by simp [Op.eqItems]
  | i :: is, h => by
    obtain ⟨k, n, hp⟩ := h i (by simp)
    have ih := items_refl w d e kk he xs c is (fun j hj => h j (by simp [hj]))
    simp only [Op.eqItems, Sem.run_bind, hp, Result.andThen_ok, run_equalIn_int w d e k kk n n he, beq_self_eq_true, Bool.not_true, Bool.false_eq_true, if_false, ih]
theorem part_pc_cfg (xs : Array Value) (w : World) : (part 25 xs 0).run Tryz.prog w = .ok (.agg (xs.extract 0 16)) w := by
  simp [part]
theorem part_pc_addr (xs : Array Value) (w : World) : (part 26 xs 16).run Tryz.prog w = .ok (.agg (xs.extract 16 32)) w := by
  simp [part]
theorem eq_cfgs (w : World) (d : Nat) (xs : Array Value) (h : ∀ i, i < 16 → ∃ n, xs[i]? = some (.int .u8 n)) : (Op.equalIn (d + 2) 25 (.agg xs) (.agg xs)).run Tryz.prog w = .ok true w := by
  cases hi : Tryz.prog.info? 5 with
  | none =>
    have hq : (Tryz.prog.info? 5).isSome = true := by kernel_rfl
    rw [hi] at hq
    cases hq
  | some i =>
    rw [run_equalIn_array w (d + 1) xs xs Tryz.underlying25 hi]
    refine items_refl w d _ _ Tryz.underlying5 xs _ _ fun j hj => ?_
    rw [show Tryz.prog.cellsOf 5 = 1 by kernel_rfl, Nat.mul_one]
    obtain ⟨n, hn⟩ := h j (by simpa using hj)
    exact ⟨_, n, run_part_plain w (by kernel_rfl) hn⟩
theorem eq_addrs (w : World) (d : Nat) (xs : Array Value) (h : ∀ i, i < 16 → ∃ n, xs[i]? = some (.int .u64 n)) : (Op.equalIn (d + 2) 26 (.agg xs) (.agg xs)).run Tryz.prog w = .ok true w := by
  cases hi : Tryz.prog.info? 23 with
  | none =>
    have hq : (Tryz.prog.info? 23).isSome = true := by kernel_rfl
    rw [hi] at hq
    cases hq
  | some i =>
    rw [run_equalIn_array w (d + 1) xs xs Tryz.underlying26 hi]
    refine items_refl w d _ _ Tryz.underlying23 xs _ _ fun j hj => ?_
    rw [show Tryz.prog.cellsOf 23 = 1 by kernel_rfl, Nat.mul_one]
    obtain ⟨n, hn⟩ := h j (by simpa using hj)
    exact ⟨_, n, run_part_plain w (by kernel_rfl) hn⟩
theorem pc_cfgs_at (c : Nat → BitVec 8) (a : Nat → BitVec 64) (i : Nat) (h : i < 16) : ((pc c a).extract 0 16)[i]? = some (.int .u8 (n8 (c i))) := by
  rw [Array.getElem?_extract, if_pos (by rw [pc_size]; omega), Nat.zero_add, pc_at _ _ _ (by omega), pcell, if_pos h]
theorem pc_addrs_at (c : Nat → BitVec 8) (a : Nat → BitVec 64) (i : Nat) (h : i < 16) : ((pc c a).extract 16 32)[i]? = some (.int .u64 (n64 (a i))) := by
  rw [Array.getElem?_extract, if_pos (by rw [pc_size]; omega), pc_at _ _ _ (by omega), pcell, if_neg (by omega), Nat.add_sub_cancel_left]
theorem eq_pc (w : World) (c : Nat → BitVec 8) (a : Nat → BitVec 64) : (Op.equalIn 10000 28 (.agg (pc c a)) (.agg (pc c a))).run Tryz.prog w = .ok true w := by
  rw [run_equalIn_struct w 9999 28 _ _ (by kernel_rfl) (by kernel_rfl)]
  have e1 := eq_cfgs w 9997 ((pc c a).extract 0 16) (fun i hi => ⟨_, pc_cfgs_at c a i hi⟩)
  have e2 := eq_addrs w 9997 ((pc c a).extract 16 32) (fun i hi => ⟨_, pc_addrs_at c a i hi⟩)
  simp [Program.fieldsOf, Tryz.underlying28, Op.eqFields, part_pc_cfg, part_pc_addr, e1, e2]
theorem quiet_load_agg {P : Program} {W : World} {o : Oper} {a : Act} {K : Act → Prop} (ty : TypeId) (x : Operand) (ho : o.op = .load ty x) (g off : Nat) (hx : a.eval x = .pointer (some ⟨g, off, none⟩)) (cs : Array Value) (d : TypeDesc)
    (hg : g < W.heap.size) (hc : ∀ j v, cs[j]? = some v → W.cell? ⟨g, off + j, none⟩ = some v) (hu : P.underlying ty = some d) (hd : (match d with | .struct _ | .array _ _ => true | _ => false) = true) (hi : (P.info? ty).map (·.size) = some cs.size)
    (hk : K (a.put o.dst (.agg cs))) : o.quiet P a (fun w' => ∃ x : Later W, w' = x.1) K := by
  refine ⟨_, fun w hw => ?_, hk⟩
  obtain ⟨y, rfl⟩ := hw
  have hl := run_load_agg (P := P) y.1 ty g off cs d (fun j v hv => (later_cell y (by exact hg)).trans (hc j v hv)) hu hd hi
  unfold Oper.quietAt execOp
  simp only [ho, hx, Instr.loadAt, Instr.sureAddr, Sem.run_bind, Sem.run_pure, Result.andThen_ok, hl]
  exact ⟨rfl, rfl⟩
end Go.Proofs.YtidfndgedopghaaGreatDoor
namespace Go.Proofs.YtidfndgedopghaaGreatDoor
set_option linter.unusedVariables false
open Go.ChangeShapes Go.WideShapes Go.ChangeAt Go.RowKit Go.Deep
section
variable {H : Type} {enc : TypeId × Value → H} {w : World} {base : Nat} {held : Bool}
theorem open_ints16 {k : IntKind} {t e : TypeId} {fuel : Nat} {cs : List Value} {y : DataW H × List MemPlace} (ht : Tryz.prog.underlying t = some (.array 16 e)) (he : Tryz.prog.underlying e = some (.int k)) (hce : Tryz.prog.cellsOf e = 1)
    (h : DataW.trod enc Tryz.prog w base (fun _ => true) held fuel t cs = some y) (hl : cs.length = 16) : ∀ j, j < 16 → ∃ n, cs[j]? = some (.int k n) ∧ (Lit.int k n).wf = true := by
  obtain ⟨xs, m, _, _, _, hxl, hx⟩ := DataW.trod_array ht h
  intro j hj
  have h1 := hx j hj
  obtain ⟨q, hq⟩ : ∃ q, xs[j]? = some q := ⟨_, List.getElem?_eq_getElem (by omega)⟩
  rw [hq, hce, Nat.mul_one] at h1
  obtain ⟨n, e0, _, hw⟩ := DataW.trod_int he h1
  refine ⟨n, ?_, hw⟩
  have h2 : ((cs.drop j).take 1)[0]? = some (.int k n) := by rw [e0]; rfl
  simpa using h2
theorem cells_pmp : Tryz.prog.cellsOf 28 = 32 := by kernel_rfl
theorem cells_c16 : Tryz.prog.cellsOf 25 = 16 := by kernel_rfl
theorem cells_a16 : Tryz.prog.cellsOf 26 = 16 := by kernel_rfl
theorem open_pmp {fuel : Nat} {cs : List Value} {y : DataW H × List MemPlace} (h : DataW.trod enc Tryz.prog w base (fun _ => true) held fuel 28 cs = some y) : ∃ (c : Nat → BitVec 8) (a : Nat → BitVec 64), cs = (pc c a).toList := by
  obtain ⟨xs, n, _, rfl, hl, hlen, hf⟩ := DataW.trod_struct Tryz.underlying28 h
  rw [cells_pmp] at hl
  match xs, (show xs.length = 2 from hlen), hf with
  | [y0, y1], _, hf =>
    have g0 : DataW.trod enc Tryz.prog w base (fun _ => true) held n 25 (cs.take 16) = some y0 := by
      have := hf 0 _ rfl
      simpa [cells_c16] using this
    have g1 : DataW.trod enc Tryz.prog w base (fun _ => true) held n 26 ((cs.drop 16).take 16) = some y1 := by
      have := hf 1 _ rfl
      simpa [cells_a16] using this
    have o0 := open_ints16 Tryz.underlying25 Tryz.underlying5 (by kernel_rfl) g0 (by simp; omega)
    have o1 := open_ints16 Tryz.underlying26 Tryz.underlying23 (by kernel_rfl) g1 (by simp; omega)
    have p0 : ∀ j, ∃ x : BitVec 8, j < 16 → cs[j]? = some (.int .u8 (n8 x)) := fun j => by
      by_cases hj : j < 16
      · obtain ⟨z, hz, hw⟩ := o0 j hj
        obtain ⟨x, rfl⟩ := n8_of hw
        exact ⟨x, fun _ => by rw [List.getElem?_take_of_lt hj] at hz; exact hz⟩
      · exact ⟨0#8, fun h => absurd h hj⟩
    have p1 : ∀ j, ∃ x : BitVec 64, j < 16 → cs[16 + j]? = some (.int .u64 (n64 x)) := fun j => by
      by_cases hj : j < 16
      · obtain ⟨z, hz, hw⟩ := o1 j hj
        obtain ⟨x, rfl⟩ := n64_of hw
        exact ⟨x, fun _ => by rw [List.getElem?_take_of_lt hj, List.getElem?_drop] at hz; exact hz⟩
      · exact ⟨0#64, fun h => absurd h hj⟩
    refine ⟨fun j => (p0 j).choose, fun j => (p1 j).choose, ?_⟩
    apply List.ext_getElem?
    intro j
    rw [Array.getElem?_toList (xs := pc _ _)]
    by_cases hj : j < 32
    · rw [pc_at _ _ _ hj, pcell]
      split
      · rename_i h16
        exact (p0 j).choose_spec h16
      · rename_i h16
        exact (congrArg (fun q => cs[q]?) (show j = 16 + (j - 16) by omega)).trans ((p1 (j - 16)).choose_spec (by omega))
    · rw [List.getElem?_eq_none (by omega), Array.getElem?_eq_none (by rw [pc_size]; omega)]
/-- The cells of an Ask. -/
def askc (c : Nat → BitVec 8) (a : Nat → BitVec 64) (i : Int) (v : BitVec 64) (m : Int) (ad : BitVec 64) (s b : Int) : Array Value := pc c a ++ #[.int .i64 i, .int .u64 (n64 v), .int .i64 m, .int .u64 (n64 ad), .int .i64 s, .int .i64 b]
theorem askc_size (c : Nat → BitVec 8) (a : Nat → BitVec 64) (i : Int) (v : BitVec 64) (m : Int) (ad : BitVec 64) (s b : Int) : (askc c a i v m ad s b).size = 38 := by simp [askc, pc_size]
def I64 (n : Int) : Prop := -9223372036854775808 ≤ n ∧ n ≤ 9223372036854775807
theorem open_ask {T : TypeId} {fuel : Nat} {cs : List Value} {y : DataW H × List MemPlace} {f0 f1 f2 f3 f4 f5 f6 : Field} (hT : Tryz.prog.underlying T = some (.struct #[f0, f1, f2, f3, f4, f5, f6])) (hC : Tryz.prog.cellsOf T = 38)
    (e0 : f0.type = 28 ∧ f0.offset = 0) (e1 : f1.type = 3 ∧ f1.offset = 32) (e2 : f2.type = 23 ∧ f2.offset = 33) (e3 : f3.type = 3 ∧ f3.offset = 34) (e4 : f4.type = 23 ∧ f4.offset = 35) (e5 : f5.type = 3 ∧ f5.offset = 36) (e6 : f6.type = 3 ∧ f6.offset = 37)
    (h : DataW.trod enc Tryz.prog w base (fun _ => true) held fuel T cs = some y) :
    ∃ (c : Nat → BitVec 8) (a : Nat → BitVec 64) (i : Int) (v : BitVec 64) (m : Int) (ad : BitVec 64) (s b : Int), cs = (askc c a i v m ad s b).toList ∧ I64 i ∧ I64 m ∧ I64 s ∧ I64 b := by
  obtain ⟨xs, n, _, rfl, hl, hlen, hf⟩ := DataW.trod_struct hT h
  rw [hC] at hl
  have cI : Tryz.prog.cellsOf 3 = 1 := by kernel_rfl
  have cU : Tryz.prog.cellsOf 23 = 1 := by kernel_rfl
  match xs, (show xs.length = 7 from hlen), hf with
  | [y0, y1, y2, y3, y4, y5, y6], _, hf =>
    have g0 := hf 0 f0 rfl
    have g1 := hf 1 f1 rfl
    have g2 := hf 2 f2 rfl
    have g3 := hf 3 f3 rfl
    have g4 := hf 4 f4 rfl
    have g5 := hf 5 f5 rfl
    have g6 := hf 6 f6 rfl
    rw [e0.1, e0.2, cells_pmp] at g0
    rw [e1.1, e1.2, cI] at g1
    rw [e2.1, e2.2, cU] at g2
    rw [e3.1, e3.2, cI] at g3
    rw [e4.1, e4.2, cU] at g4
    rw [e5.1, e5.2, cI] at g5
    rw [e6.1, e6.2, cI] at g6
    obtain ⟨c, a, k0⟩ := open_pmp g0
    obtain ⟨i1, k1, _, w1⟩ := DataW.trod_int Tryz.underlying3 g1
    obtain ⟨i2, k2, _, w2⟩ := DataW.trod_int Tryz.underlying23 g2
    obtain ⟨i3, k3, _, w3⟩ := DataW.trod_int Tryz.underlying3 g3
    obtain ⟨i4, k4, _, w4⟩ := DataW.trod_int Tryz.underlying23 g4
    obtain ⟨i5, k5, _, w5⟩ := DataW.trod_int Tryz.underlying3 g5
    obtain ⟨i6, k6, _, w6⟩ := DataW.trod_int Tryz.underlying3 g6
    obtain ⟨v, rfl⟩ := n64_of w2
    obtain ⟨ad, rfl⟩ := n64_of w4
    refine ⟨c, a, i1, v, i3, ad, i5, i6, ?_, bounds_i64 w1, bounds_i64 w3, bounds_i64 w5, bounds_i64 w6⟩
    have t : ∀ k, k < 38 → cs.drop k = (cs.drop k).take 1 ++ cs.drop (k + 1) := fun k hk => by
      rw [← List.drop_drop, List.take_append_drop]
    have q : cs = (cs.drop 0).take 32 ++ cs.drop 32 := by simp
    rw [q, k0, t 32 (by omega), k1, t 33 (by omega), k2, t 34 (by omega), k3, t 35 (by omega), k4, t 36 (by omega), k5, t 37 (by omega), k6, List.drop_eq_nil_of_le (by omega)]
    simp [askc]
end
end Go.Proofs.YtidfndgedopghaaGreatDoor
