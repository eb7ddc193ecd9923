/-
  formOf: an operation that is none; one that is.
-/
import Derived.Test.YtechkhlibdkmpacEp
import Derived.Deep.RegionWith
import Derived.Deep.RegionHeld3
namespace Go.Proofs.Ytechkhlibdkmpac
set_option linter.unusedVariables false
open Go.ChangeShapes Go.WideShapes Go.ChangeAt Go.RowKit Go.Deep
theorem results_cell_row_tmp {P : Program} {fn : Func} {p u : Tmp} {ty : TypeId} (h : fn.results = #[.cell p ty, .tmp u]) (tmps : Array Value) (w : World) (g : Nat) (t : TypeId) (cs : Array Value) (fr : Nat × Nat) (d : TypeDesc) (v : Value)
    (hp : tmps.getD p undef = .pointer (some ⟨g, 0, none⟩)) (hv : tmps.getD u undef = v) (hg : w.heap[g]? = some (.cells cs t fr))
    (hu : P.underlying ty = some d) (hd : (match d with | .struct _ | .array _ _ => true | _ => false) = true) (hi : (P.info? ty).map (·.size) = some cs.size) :
    (results fn tmps).run P w = .ok (.tuple #[.agg cs, v]) w := by
  rw [results_cell_tmp h]
  have hp' : tmps[p]?.getD undef = .pointer (some ⟨g, 0, none⟩) := by simpa using hp
  have hv' : tmps[u]?.getD undef = v := by simpa using hv
  simp [hp', hv', asAddr, run_loadVar_row w g t ty cs fr d hg hu hd hi, Result.andThen]
theorem formSize2 : (Try.prog.info? 36).map (·.size) = some 2 := by kernel_rfl
theorem formAll (z : Int) (v : Value) (h : v.oneCell' = true) : (#[Value.int .u32 z, v] : Array Value).all (·.oneCell') = true := by cases v <;> simp_all [Value.oneCell']
theorem store_fn (w : World) (a v v' : Value) (h1 : v'.oneCell' = true) : (store ⟨w.heap.size, 1, none⟩ v').run Try.prog (w.alloc (.cells #[a, v] 36)) = .ok () (w.alloc (.cells #[a, v'] 36)) := by
  have hc : (w.alloc (.cells #[a, v] 36)).cell? ⟨w.heap.size, 1, none⟩ = some v := cell_of_row _ w.heap.size 1 _ _ _ (heap_alloc_new w _)
  have hf : (w.alloc (.cells #[a, v] 36)).frozen? ⟨w.heap.size, 1, none⟩ = false := frozen_of_row _ w.heap.size 1 _ _ (heap_alloc_new w _)
  rw [run_store Try.prog _ _ _ _ h1, hc]
  simp only [hf, Bool.false_eq_true, if_false]
  rw [World.setCell_alloc_new]
  rfl
theorem store_old (w : World) (g : Nat) (a v v' : Value) (h1 : v'.oneCell' = true) (hr : w.heap[g]? = some (.cells #[a, v] 36 (0, 0))) (a' : Value) :
    (store ⟨g, 1, none⟩ v').run Try.prog (w.setCell ⟨g, 0, none⟩ a') = .ok () ((w.setCell ⟨g, 0, none⟩ a').setCell ⟨g, 1, none⟩ v') ∧ ((w.setCell ⟨g, 0, none⟩ a').setCell ⟨g, 1, none⟩ v').heap[g]? = some (.cells #[a', v'] 36 (0, 0)) := by
  have hs : (w.setCell ⟨g, 0, none⟩ a').heap[g]? = some (.cells #[a', v] 36 (0, 0)) := by
    simp [World.setCell, hr, Array.getElem?_modify]
  have hs2 : ((w.setCell ⟨g, 0, none⟩ a').setCell ⟨g, 1, none⟩ v').heap[g]? = some (.cells #[a', v'] 36 (0, 0)) := by
    generalize w.setCell ⟨g, 0, none⟩ a' = w9 at hs ⊢
    simp [World.setCell, hs, Array.getElem?_modify]
  refine ⟨?_, hs2⟩
  have hc : (w.setCell ⟨g, 0, none⟩ a').cell? ⟨g, 1, none⟩ = some v := cell_of_row _ g 1 _ _ _ hs
  have hf := frozen_of_row _ g 1 _ _ hs
  rw [run_store Try.prog _ _ _ _ h1, hc]
  simp only [hf, Bool.false_eq_true, if_false]
theorem insSize : (Try.prog.info? 24).map (·.size) = some 9 := by kernel_rfl
theorem Lyt.isE {w : World} {a : Option Addr} {n c : Nat} {l : List Pc} (h : Lyt w (.slice a n c) l) : (l.isEmpty = true ∧ a = none ∧ n = 0 ∧ c = 0) ∨ (l.isEmpty = false ∧ ∃ b, a = some b) := by
  rcases h.cases with ⟨h1, h2⟩ | ⟨h1, b, m, k, h2⟩
  · simp only [Value.slice.injEq] at h2
    exact .inl ⟨h1, h2.1, h2.2.1, h2.2.2⟩
  · simp only [Value.slice.injEq] at h2
    exact .inr ⟨h1, b, h2.1⟩
theorem holds_c (x : Ins) (a0 a1 a2 a3 : Option Addr) (n0 n1 n2 n3 c0 c1 c2 c3 : Nat) (P0 P1 P2 P3 : List Pc) (od : Bool) (lo hi st : Int) (w : World) (hx : InsOk x) (h0 : Lyt w (.slice a0 n0 c0) P0) (h1 : Lyt w (.slice a1 n1 c1) P1) (h2 : Lyt w (.slice a2 n2 c2) P2) (h3 : Lyt w (.slice a3 n3 c3) P3) :
    Calls Try.prog 18 #[.agg #[.slice a0 n0 c0, .slice a1 n1 c1, .slice a2 n2 c2, .slice a3 n3 c3, .bool od, .int .i64 lo, .int .i64 hi, .int .i64 st], .agg #[.int .i64 x.op, .int .i64 x.rd, .int .i64 x.rs1, .int .i64 x.rs2, .int .i64 x.imm, .bool x.aq, .bool x.rl, .int .i64 x.len, .int .u32 x.raw]] w fun e w' => e = .returned (.bool (hdB P0 P1 P2 P3 od x)) ∧ Below w.heap.size w w' := by
  rcases h3.isE with ⟨hP, rfl, rfl, rfl⟩ | ⟨hP, b, rfl⟩
  · exact holds_n x a0 a1 a2 n0 n1 n2 c0 c1 c2 P0 P1 P2 P3 od lo hi st w hx h0 h1 h2 hP
  · exact holds_s x a0 a1 a2 n0 n1 n2 c0 c1 c2 b n3 c3 P0 P1 P2 P3 od lo hi st w hx h0 h1 h2 hP
theorem reaches_c (a0 a1 a2 a3 : Option Addr) (n0 n1 n2 n3 c0 c1 c2 c3 : Nat) (P3 : List Pc) (od : Bool) (lo hi st v : Int) (w : World) (hl : I64 lo) (hh : I64 hi) (hs : P3.isEmpty = false → 1 ≤ st ∧ st ≤ 4096) (hv : I64 v) (h3 : Lyt w (.slice a3 n3 c3) P3) :
    Calls Try.prog 19 #[.agg #[.slice a0 n0 c0, .slice a1 n1 c1, .slice a2 n2 c2, .slice a3 n3 c3, .bool od, .int .i64 lo, .int .i64 hi, .int .i64 st], .int .i64 v] w fun e w' => e = .returned (.bool (rcB P3 lo hi st v)) ∧ Below w.heap.size w w' := by
  rcases h3.isE with ⟨hP, rfl, rfl, rfl⟩ | ⟨hP, b, rfl⟩
  · exact reaches_n a0 a1 a2 n0 n1 n2 c0 c1 c2 P3 od lo hi st v w hl hh hv hP
  · exact reaches_s a0 a1 a2 n0 n1 n2 c0 c1 c2 b n3 c3 P3 od lo hi st v w hl hh (hs hP) hv hP
theorem setRow_same {w : World} {g : Nat} {C C' : Array Value} {t : TypeId} (h : w.heap[g]? = some (.cells C t (0, 0))) : (w.setRow g C').heap[g]? = some (.cells C' t (0, 0)) := by
  unfold World.setRow
  rw [Array.getElem?_modify, if_pos rfl, h]
  rfl
set_option maxRecDepth 100000 in
set_option maxHeartbeats 4000000 in
theorem formOf_none (x : Ins) (w : World) (hx : InsOk x) (hlk0 : lk TB x.op = none) :
    Calls Try.prog 10 #[.agg (insv x)] w fun e w' => e = .returned (.tuple #[.agg #[.int .u32 0, .nilFunc], .int .i64 60]) ∧ Below w.heap.size w w' := by
  obtain ⟨fb, hfb⟩ : ∃ fb : Int, fb = 0 := ⟨_, rfl⟩
  obtain ⟨fx, hfx0⟩ : ∃ fx : Value, fx = .nilFunc := ⟨_, rfl⟩
  obtain ⟨kn, hkn⟩ : ∃ kn : Bool, kn = false := ⟨_, rfl⟩
  have hfx : fx.oneCell' = true := by rw [hfx0]; rfl
  have hlk : ∀ b n w, Mp TB b n w → (Instr.lookup 49 (.map (some b)) (.int .i64 x.op) true).run Try.prog w = .ok (.tuple #[.agg #[.int .u32 fb, fx], .bool kn]) w := fun b n w hm => by
    obtain ⟨v, ok, hrun, hl⟩ := hm.look x.op (WalkArith.wf_i64 hx.op)
    rw [hlk0] at hl
    obtain ⟨rfl, rfl⟩ := hl
    rw [hfb, hfx0, hkn]
    exact hrun
  have HKN : Hid (kn = false) := hkn
  clear hfb hfx0 hkn hlk0
  obtain ⟨W, hW⟩ : ∃ W, (w.alloc (.cells (insv x) 24)).alloc (.cells #[.int .u32 0, .nilFunc] 36) = W := ⟨_, rfl⟩
  have hbw : Below w.heap.size w W := by rw [← hW]; exact (below_al w _).trans ((below_al _ _).mono (below_al w _).size)
  have r1 : W.heap[w.heap.size]? = some (.cells (insv x) 24 (0, 0)) := by rw [← hW]; exact (Below.heap_alloc _ _ _ (by simp)).trans (heap_alloc_new w _)
  have r2 : W.heap[w.heap.size + 1]? = some (.cells #[.int .u32 0, .nilFunc] 36 (0, 0)) := by rw [← hW]; have := heap_alloc_new (w.alloc (.cells (insv x) 24)) (.cells #[.int .u32 0, .nilFunc] 36); simpa using this
  have hws : W.heap.size = w.heap.size + 2 := by rw [← hW]; simp
  have HLF : Hid (∀ w9, Below W.heap.size W w9 → Calls Try.prog 17 #[] w9 fun e w' => ∃ b, e = .returned (.map (some b)) ∧ (Instr.lookup 49 (.map (some b)) (.int .i64 x.op) true).run Try.prog w' = .ok (.tuple #[.agg #[.int .u32 fb, fx], .bool kn]) w' ∧ (Instr.lookup 49 (.map (some b)) (.int .i64 x.op) true).run Try.prog (w'.alloc (.cells #[.int .u32 0, .nilFunc] 36)) = .ok (.tuple #[.agg #[.int .u32 fb, fx], .bool kn]) (w'.alloc (.cells #[.int .u32 0, .nilFunc] 36)) ∧ w'.cell? ⟨w.heap.size, 0, none⟩ = some (.int .i64 x.op) ∧ (∀ o, (w'.alloc o).cell? ⟨w.heap.size, 0, none⟩ = some (.int .i64 x.op)) ∧ Below w9.heap.size w9 w' ∧ Below W.heap.size W w') := fun w9 hb => (longForms_c w9).mono fun e w' ⟨b, n, he, hm, hb2⟩ => by
    have hb3 : Below W.heap.size W w' := hb.trans (hb2.mono hb.size)
    exact ⟨b, he, hlk _ _ _ hm, hlk _ _ _ (hm.later (below_al w' (.cells #[.int .u32 0, .nilFunc] 36))), (hb3.cell (Array.getElem?_eq_some_iff.1 r1).1).trans (cell_of_row W _ 0 _ _ _ r1), fun o => ((hb3.trans ((below_al w' o).mono hb3.size)).cell (p := ⟨w.heap.size, 0, none⟩) (Array.getElem?_eq_some_iff.1 r1).1).trans (cell_of_row W _ 0 _ _ _ r1), hb2, hb3⟩
  have p0 : W.cell? ⟨w.heap.size, 0, none⟩ = some (.int .i64 x.op) := cell_of_row W _ 0 _ _ _ r1
  have p0a : ∀ o, (W.alloc o).cell? ⟨w.heap.size, 0, none⟩ = some (.int .i64 x.op) := fun o => ((below_al W o).cell (p := ⟨w.heap.size, 0, none⟩) (Array.getElem?_eq_some_iff.1 r1).1).trans p0
  have HR1 : Hid (W.heap[w.heap.size]? = some (.cells (insv x) 24 (0, 0))) := r1
  have HR2 : Hid (W.heap[w.heap.size + 1]? = some (.cells #[.int .u32 0, .nilFunc] 36 (0, 0))) := r2
  have HBW : Hid (Below w.heap.size w W) := hbw
  have HWS : Hid (W.heap.size = w.heap.size + 2) := hws
  have hsn : ∀ w : World, (store ⟨w.heap.size, 1, none⟩ fx).run Try.prog (w.alloc (.cells #[.int .u32 fb, .nilFunc] 36)) = .ok () (w.alloc (.cells #[.int .u32 fb, fx] 36)) := fun w => store_fn w _ _ _ hfx
  have HZ : Hid (∀ w2, Below (W.alloc (.cells #[.int .u32 0, .nilFunc] 36)).heap.size (W.alloc (.cells #[.int .u32 0, .nilFunc] 36)).drew w2 → w2.cell? ⟨W.heap.size, 0, none⟩ = some (.int .u32 0) ∧ w2.frozen? ⟨W.heap.size, 0, none⟩ = false ∧ (store ⟨W.heap.size, 1, none⟩ fx).run Try.prog (w2.setCell ⟨W.heap.size, 0, none⟩ (.int .u32 fb)) = .ok () ((w2.setCell ⟨W.heap.size, 0, none⟩ (.int .u32 fb)).setCell ⟨W.heap.size, 1, none⟩ fx) ∧ ((w2.setCell ⟨W.heap.size, 0, none⟩ (.int .u32 fb)).setCell ⟨W.heap.size, 1, none⟩ fx).cell? ⟨w.heap.size, 0, none⟩ = some (.int .i64 x.op) ∧ Hid (((w2.setCell ⟨W.heap.size, 0, none⟩ (.int .u32 fb)).setCell ⟨W.heap.size, 1, none⟩ fx).heap[W.heap.size]? = some (.cells #[.int .u32 fb, fx] 36 (0, 0)))) := fun w2 hb => by
    have hr : w2.heap[W.heap.size]? = some (.cells #[.int .u32 0, .nilFunc] 36 (0, 0)) := (hb.block W.heap.size (by simp)).trans (heap_alloc_new W _)
    obtain ⟨h1, h2⟩ := store_old w2 W.heap.size _ _ fx hfx hr (.int .u32 fb)
    exact ⟨cell_of_row _ _ 0 _ _ _ hr, frozen_of_row _ _ 0 _ _ hr, h1, (by
      have hlt := (Array.getElem?_eq_some_iff.1 r1).1
      have hb2 : Below W.heap.size W ((w2.setCell ⟨W.heap.size, 0, none⟩ (.int .u32 fb)).setCell ⟨W.heap.size, 1, none⟩ fx) := Below.setCell (Below.setCell ((Below.drew (below_al W _)).trans (hb.mono (by show W.heap.size ≤ (W.alloc _).heap.size; simp))) (Nat.le_refl _) _) (Nat.le_refl _) _
      exact (hb2.cell (p := ⟨w.heap.size, 0, none⟩) hlt).trans (cell_of_row W _ 0 _ _ _ r1)), h2⟩
  unfold insv at hW
  clear r1 r2 hbw hlk hx hws
  unfold insv
  go_enter Try.func10, Try.ntmps10
  go_upto_region 1 with fail
  clear hW
  --@CUT0
  go_cut [4, 5] from 7 to 13 (fun p q wx => ∃ g, p = .pointer (some ⟨g, 0, none⟩) ∧ q = .bool kn ∧ W.heap.size ≤ g ∧ wx.heap[g]? = some (.cells #[.int .u32 fb, fx] 36 (0, 0)) ∧ Below W.heap.size W wx)
  case first =>
    --@CUT1
    go_region_held3 (fun w' => w'.cell? ⟨w.heap.size, 0, none⟩ = some (.int .i64 x.op)) (first | exact p0 | exact hc | exact p0a _ | exact hca _ | exact z4) (first | (go_at_call 17; refine (HLF.out _ (by first | exact Below.drew (Below.refl _ _) | exact Below.drew (below_al W _))).mono ?_; rintro e w2 ⟨b, rfl, hrun, hrun2, hc, hca, hb9, hb⟩; have HB9 : Hid _ := hb9; have HB2 : Hid (Below W.heap.size W w2) := hb; (try have hz := HZ.out w2 hb9); (try obtain ⟨z0, z1, z2, z4, z3⟩ := hz); clear hb hb9))
    --@CUT2
    all_goals go_wp2_with fail
    all_goals go_meet
    all_goals first | exact ⟨w2.heap.size, rfl, rfl, HB2.out.size, heap_alloc_new w2 _, HB2.out.trans ((below_al w2 _).mono HB2.out.size)⟩ | exact ⟨W.heap.size, rfl, rfl, Nat.le_refl _, z3.out, Below.setCell (Below.setCell HB2.out (Nat.le_refl _) _) (Nat.le_refl _) _⟩
  case rest =>
    obtain ⟨g, rfl, rfl, hg, hr, hb⟩ := hcut
    have HBc : Hid (Below W.heap.size W wc) := hb
    have HG : Hid (W.heap.size ≤ g) := hg
    have HRg : Hid (wc.heap[g]? = some (.cells #[.int .u32 fb, fx] 36 (0, 0))) := hr
    have HR2c : Hid (wc.heap[w.heap.size + 1]? = some (.cells #[.int .u32 0, .nilFunc] 36 (0, 0))) := (hb.block _ (by rw [HWS.out]; omega)).trans HR2.out
    clear hg hr hb
    have hkn := HKN.out
    --@CUT4
    go_wp2_with (refine wpList_store_row (by rfl) 36 _ _ (by rfl) (w.heap.size + 1) #[.int .u32 0, .nilFunc] (by rfl) (by rfl) 36 _ HR2c.out formSize2 (by rfl) (formAll _ _ rfl) ?_)
    --@CUT5
    refine bodyPost_ret (v := .tuple #[.agg #[.int .u32 0, .nilFunc], .int .i64 60]) (results_cell_row_tmp Try.results10 _ _ (w.heap.size + 1) 36 #[.int .u32 0, .nilFunc] (0, 0) _ _ (by rfl) (by rfl) (setRow_same HR2c.out) Try.underlying36 (by rfl) formSize2) rfl ?_
    exact ⟨rfl, below_setRow (HBW.out.trans (HBc.out.mono (by rw [HWS.out]; omega))) (by omega)⟩
set_option maxRecDepth 100000 in
set_option maxHeartbeats 4000000 in
theorem formOf_b (x : Ins) (w : World) (hx : InsOk x) (fb : Int) (f : Nat) (P0 P1 P2 P3 : List Pc) (od : Bool) (lo hi st : Int) (b1 b2 : Bool) (code : Int) (row : Array Value) (hlk0 : lk TB x.op = some (fb, f))
    (hcf : ∀ w, (callFunc f #[]).run Try.prog w = .ok (.enter f #[]) w)
    (hS : ∀ w : World, Calls Try.prog f #[] w fun e w' => ∃ v0 v1 v2 v3, e = .returned (.agg #[v0, v1, v2, v3, .bool od, .int .i64 lo, .int .i64 hi, .int .i64 st]) ∧ Lyt w' v0 P0 ∧ Lyt w' v1 P1 ∧ Lyt w' v2 P2 ∧ Lyt w' v3 P3 ∧ Below w.heap.size w w')
    (hl : I64 lo) (hh : I64 hi) (hs : P3.isEmpty = false → 1 ≤ st ∧ st ≤ 4096) (hb1 : hdB P0 P1 P2 P3 od x = b1) (hb2 : rcB P3 lo hi st x.imm = b2)
    (hcr : (b1 = false ∧ code = 60 ∧ row = #[.int .u32 0, .nilFunc]) ∨ (b1 = true ∧ b2 = false ∧ code = 61 ∧ row = #[.int .u32 0, .nilFunc]) ∨ (b1 = true ∧ b2 = true ∧ code = 0 ∧ row = #[.int .u32 fb, .func (.func f) #[] #[]])) :
    Calls Try.prog 10 #[.agg (insv x)] w fun e w' => e = .returned (.tuple #[.agg row, .int .i64 code]) ∧ Below w.heap.size w w' := by
  obtain ⟨fx, hfx0⟩ : ∃ fx : Value, fx = .func (.func f) #[] #[] := ⟨_, rfl⟩
  obtain ⟨kn, hkn⟩ : ∃ kn : Bool, kn = true := ⟨_, rfl⟩
  have hfx : fx.oneCell' = true := by rw [hfx0]; rfl
  have hlk : ∀ b n w, Mp TB b n w → (Instr.lookup 49 (.map (some b)) (.int .i64 x.op) true).run Try.prog w = .ok (.tuple #[.agg #[.int .u32 fb, fx], .bool kn]) w := fun b n w hm => by
    obtain ⟨v, ok, hrun, hl⟩ := hm.look x.op (WalkArith.wf_i64 hx.op)
    rw [hlk0] at hl
    obtain ⟨rfl, rfl⟩ := hl
    rw [hfx0, hkn]
    exact hrun
  have HKN : Hid (kn = true) := hkn
  have HFX : Hid (fx = .func (.func f) #[] #[]) := hfx0
  have HCR : Hid ((b1 = false ∧ code = 60 ∧ row = #[.int .u32 0, .nilFunc]) ∨ (b1 = true ∧ b2 = false ∧ code = 61 ∧ row = #[.int .u32 0, .nilFunc]) ∨ (b1 = true ∧ b2 = true ∧ code = 0 ∧ row = #[.int .u32 fb, .func (.func f) #[] #[]])) := hcr
  have HS : Hid (∀ w : World, Calls Try.prog f #[] w fun e w' => ∃ v0 v1 v2 v3, e = .returned (.agg #[v0, v1, v2, v3, .bool od, .int .i64 lo, .int .i64 hi, .int .i64 st]) ∧ Lyt w' v0 P0 ∧ Lyt w' v1 P1 ∧ Lyt w' v2 P2 ∧ Lyt w' v3 P3 ∧ Below w.heap.size w w') := hS
  have HH : Hid (∀ (a0 a1 a2 a3 : Option Addr) (n0 n1 n2 n3 c0 c1 c2 c3 : Nat) (w : World), Lyt w (.slice a0 n0 c0) P0 → Lyt w (.slice a1 n1 c1) P1 → Lyt w (.slice a2 n2 c2) P2 → Lyt w (.slice a3 n3 c3) P3 → Calls Try.prog 18 #[.agg #[.slice a0 n0 c0, .slice a1 n1 c1, .slice a2 n2 c2, .slice a3 n3 c3, .bool od, .int .i64 lo, .int .i64 hi, .int .i64 st], .agg #[.int .i64 x.op, .int .i64 x.rd, .int .i64 x.rs1, .int .i64 x.rs2, .int .i64 x.imm, .bool x.aq, .bool x.rl, .int .i64 x.len, .int .u32 x.raw]] w fun e w' => e = .returned (.bool b1) ∧ Below w.heap.size w w') := fun a0 a1 a2 a3 n0 n1 n2 n3 c0 c1 c2 c3 w h0 h1 h2 h3 => hb1 ▸ holds_c x a0 a1 a2 a3 n0 n1 n2 n3 c0 c1 c2 c3 P0 P1 P2 P3 od lo hi st w hx h0 h1 h2 h3
  have HQ : Hid (∀ (a0 a1 a2 a3 : Option Addr) (n0 n1 n2 n3 c0 c1 c2 c3 : Nat) (w : World), Lyt w (.slice a3 n3 c3) P3 → Calls Try.prog 19 #[.agg #[.slice a0 n0 c0, .slice a1 n1 c1, .slice a2 n2 c2, .slice a3 n3 c3, .bool od, .int .i64 lo, .int .i64 hi, .int .i64 st], .int .i64 x.imm] w fun e w' => e = .returned (.bool b2) ∧ Below w.heap.size w w') := fun a0 a1 a2 a3 n0 n1 n2 n3 c0 c1 c2 c3 w h3 => hb2 ▸ reaches_c a0 a1 a2 a3 n0 n1 n2 n3 c0 c1 c2 c3 P3 od lo hi st x.imm w hl hh hs hx.imm h3
  clear hfx0 hkn hlk0 hcr hS hl hh hs hb1 hb2
  obtain ⟨W, hW⟩ : ∃ W, (w.alloc (.cells (insv x) 24)).alloc (.cells #[.int .u32 0, .nilFunc] 36) = W := ⟨_, rfl⟩
  have hbw : Below w.heap.size w W := by rw [← hW]; exact (below_al w _).trans ((below_al _ _).mono (below_al w _).size)
  have r1 : W.heap[w.heap.size]? = some (.cells (insv x) 24 (0, 0)) := by rw [← hW]; exact (Below.heap_alloc _ _ _ (by simp)).trans (heap_alloc_new w _)
  have r2 : W.heap[w.heap.size + 1]? = some (.cells #[.int .u32 0, .nilFunc] 36 (0, 0)) := by rw [← hW]; have := heap_alloc_new (w.alloc (.cells (insv x) 24)) (.cells #[.int .u32 0, .nilFunc] 36); simpa using this
  have hws : W.heap.size = w.heap.size + 2 := by rw [← hW]; simp
  have HLF : Hid (∀ w9, Below W.heap.size W w9 → Calls Try.prog 17 #[] w9 fun e w' => ∃ b, e = .returned (.map (some b)) ∧ (Instr.lookup 49 (.map (some b)) (.int .i64 x.op) true).run Try.prog w' = .ok (.tuple #[.agg #[.int .u32 fb, fx], .bool kn]) w' ∧ (Instr.lookup 49 (.map (some b)) (.int .i64 x.op) true).run Try.prog (w'.alloc (.cells #[.int .u32 0, .nilFunc] 36)) = .ok (.tuple #[.agg #[.int .u32 fb, fx], .bool kn]) (w'.alloc (.cells #[.int .u32 0, .nilFunc] 36)) ∧ w'.cell? ⟨w.heap.size, 0, none⟩ = some (.int .i64 x.op) ∧ (∀ o, (w'.alloc o).cell? ⟨w.heap.size, 0, none⟩ = some (.int .i64 x.op)) ∧ Below w9.heap.size w9 w' ∧ Below W.heap.size W w') := fun w9 hb => (longForms_c w9).mono fun e w' ⟨b, n, he, hm, hb2⟩ => by
    have hb3 : Below W.heap.size W w' := hb.trans (hb2.mono hb.size)
    exact ⟨b, he, hlk _ _ _ hm, hlk _ _ _ (hm.later (below_al w' (.cells #[.int .u32 0, .nilFunc] 36))), (hb3.cell (Array.getElem?_eq_some_iff.1 r1).1).trans (cell_of_row W _ 0 _ _ _ r1), fun o => ((hb3.trans ((below_al w' o).mono hb3.size)).cell (p := ⟨w.heap.size, 0, none⟩) (Array.getElem?_eq_some_iff.1 r1).1).trans (cell_of_row W _ 0 _ _ _ r1), hb2, hb3⟩
  have p0 : W.cell? ⟨w.heap.size, 0, none⟩ = some (.int .i64 x.op) := cell_of_row W _ 0 _ _ _ r1
  have p0a : ∀ o, (W.alloc o).cell? ⟨w.heap.size, 0, none⟩ = some (.int .i64 x.op) := fun o => ((below_al W o).cell (p := ⟨w.heap.size, 0, none⟩) (Array.getElem?_eq_some_iff.1 r1).1).trans p0
  have HR1 : Hid (W.heap[w.heap.size]? = some (.cells (insv x) 24 (0, 0))) := r1
  have HR2 : Hid (W.heap[w.heap.size + 1]? = some (.cells #[.int .u32 0, .nilFunc] 36 (0, 0))) := r2
  have HBW : Hid (Below w.heap.size w W) := hbw
  have HWS : Hid (W.heap.size = w.heap.size + 2) := hws
  have hsn : ∀ w : World, (store ⟨w.heap.size, 1, none⟩ fx).run Try.prog (w.alloc (.cells #[.int .u32 fb, .nilFunc] 36)) = .ok () (w.alloc (.cells #[.int .u32 fb, fx] 36)) := fun w => store_fn w _ _ _ hfx
  have HZ : Hid (∀ w2, Below (W.alloc (.cells #[.int .u32 0, .nilFunc] 36)).heap.size (W.alloc (.cells #[.int .u32 0, .nilFunc] 36)).drew w2 → w2.cell? ⟨W.heap.size, 0, none⟩ = some (.int .u32 0) ∧ w2.frozen? ⟨W.heap.size, 0, none⟩ = false ∧ (store ⟨W.heap.size, 1, none⟩ fx).run Try.prog (w2.setCell ⟨W.heap.size, 0, none⟩ (.int .u32 fb)) = .ok () ((w2.setCell ⟨W.heap.size, 0, none⟩ (.int .u32 fb)).setCell ⟨W.heap.size, 1, none⟩ fx) ∧ ((w2.setCell ⟨W.heap.size, 0, none⟩ (.int .u32 fb)).setCell ⟨W.heap.size, 1, none⟩ fx).cell? ⟨w.heap.size, 0, none⟩ = some (.int .i64 x.op) ∧ Hid (((w2.setCell ⟨W.heap.size, 0, none⟩ (.int .u32 fb)).setCell ⟨W.heap.size, 1, none⟩ fx).heap[W.heap.size]? = some (.cells #[.int .u32 fb, fx] 36 (0, 0)))) := fun w2 hb => by
    have hr : w2.heap[W.heap.size]? = some (.cells #[.int .u32 0, .nilFunc] 36 (0, 0)) := (hb.block W.heap.size (by simp)).trans (heap_alloc_new W _)
    obtain ⟨h1, h2⟩ := store_old w2 W.heap.size _ _ fx hfx hr (.int .u32 fb)
    exact ⟨cell_of_row _ _ 0 _ _ _ hr, frozen_of_row _ _ 0 _ _ hr, h1, (by
      have hlt := (Array.getElem?_eq_some_iff.1 r1).1
      have hb2 : Below W.heap.size W ((w2.setCell ⟨W.heap.size, 0, none⟩ (.int .u32 fb)).setCell ⟨W.heap.size, 1, none⟩ fx) := Below.setCell (Below.setCell ((Below.drew (below_al W _)).trans (hb.mono (by show W.heap.size ≤ (W.alloc _).heap.size; simp))) (Nat.le_refl _) _) (Nat.le_refl _) _
      exact (hb2.cell (p := ⟨w.heap.size, 0, none⟩) hlt).trans (cell_of_row W _ 0 _ _ _ r1)), h2⟩
  unfold insv at hW
  clear r1 r2 hbw hlk hx hws
  unfold insv
  go_enter Try.func10, Try.ntmps10
  go_upto_region 1 with fail
  clear hW
  --@CUT0
  go_cut [4, 5] from 7 to 13 (fun p q wx => ∃ g, p = .pointer (some ⟨g, 0, none⟩) ∧ q = .bool kn ∧ W.heap.size ≤ g ∧ wx.heap[g]? = some (.cells #[.int .u32 fb, fx] 36 (0, 0)) ∧ Below W.heap.size W wx)
  case first =>
    --@CUT1
    go_region_held3 (fun w' => w'.cell? ⟨w.heap.size, 0, none⟩ = some (.int .i64 x.op)) (first | exact p0 | exact hc | exact p0a _ | exact hca _ | exact z4) (first | (go_at_call 17; refine (HLF.out _ (by first | exact Below.drew (Below.refl _ _) | exact Below.drew (below_al W _))).mono ?_; rintro e w2 ⟨b, rfl, hrun, hrun2, hc, hca, hb9, hb⟩; have HB9 : Hid _ := hb9; have HB2 : Hid (Below W.heap.size W w2) := hb; (try have hz := HZ.out w2 hb9); (try obtain ⟨z0, z1, z2, z4, z3⟩ := hz); clear hb hb9))
    --@CUT2
    all_goals go_wp2_with fail
    all_goals go_meet
    all_goals first | exact ⟨w2.heap.size, rfl, rfl, HB2.out.size, heap_alloc_new w2 _, HB2.out.trans ((below_al w2 _).mono HB2.out.size)⟩ | exact ⟨W.heap.size, rfl, rfl, Nat.le_refl _, z3.out, Below.setCell (Below.setCell HB2.out (Nat.le_refl _) _) (Nat.le_refl _) _⟩
  case rest =>
    obtain ⟨g, rfl, rfl, hg, hr, hb⟩ := hcut
    have HBc : Hid (Below W.heap.size W wc) := hb
    have HG : Hid (W.heap.size ≤ g) := hg
    have HRg : Hid (wc.heap[g]? = some (.cells #[.int .u32 fb, fx] 36 (0, 0))) := hr
    have HR2c : Hid (wc.heap[w.heap.size + 1]? = some (.cells #[.int .u32 0, .nilFunc] 36 (0, 0))) := (hb.block _ (by rw [HWS.out]; omega)).trans HR2.out
    clear hg hr hb
    have hkn := HKN.out
    have g1 : wc.cell? ⟨g, 1, none⟩ = some (.func (.func f) #[] #[]) := by rw [← HFX.out]; exact cell_of_row wc g 1 _ _ _ HRg.out
    --@CUT4
    go_wp2_with fail
    --@CUT5
    refine (HS.out _).mono ?_
    rintro e w3 ⟨v0, v1, v2, v3, rfl, l0, l1, l2, l3, hb3⟩
    obtain ⟨a0, n0, c0, rfl⟩ := l0.form
    obtain ⟨a1, n1, c1, rfl⟩ := l1.form
    obtain ⟨a2, n2, c2, rfl⟩ := l2.form
    obtain ⟨a3, n3, c3, rfl⟩ := l3.form
    obtain ⟨W4, hW4⟩ : ∃ W4, w3.alloc (.cells #[.slice a0 n0 c0, .slice a1 n1 c1, .slice a2 n2 c2, .slice a3 n3 c3, .bool od, .int .i64 lo, .int .i64 hi, .int .i64 st] 58) = W4 := ⟨_, rfl⟩
    have hb34 : Below w3.heap.size w3 W4 := by rw [← hW4]; exact below_al w3 _
    have hbc4 : Below wc.heap.size wc W4 := hb3.trans (hb34.mono hb3.size)
    have HB4 : Hid (Below W.heap.size W W4) := HBc.out.trans (hbc4.mono HBc.out.size)
    have K6 : Hid (W4.heap[w3.heap.size]? = some (.cells #[.slice a0 n0 c0, .slice a1 n1 c1, .slice a2 n2 c2, .slice a3 n3 c3, .bool od, .int .i64 lo, .int .i64 hi, .int .i64 st] 58 (0, 0))) := by rw [← hW4]; exact heap_alloc_new w3 _
    have K1 : Hid (W4.heap[w.heap.size]? = some (.cells #[.int .i64 x.op, .int .i64 x.rd, .int .i64 x.rs1, .int .i64 x.rs2, .int .i64 x.imm, .bool x.aq, .bool x.rl, .int .i64 x.len, .int .u32 x.raw] 24 (0, 0))) := (HB4.out.block _ (by rw [HWS.out]; omega)).trans HR1.out
    have K2 : Hid (W4.heap[w.heap.size + 1]? = some (.cells #[.int .u32 0, .nilFunc] 36 (0, 0))) := (HB4.out.block _ (by rw [HWS.out]; omega)).trans HR2.out
    have KG : Hid (W4.heap[g]? = some (.cells #[.int .u32 fb, fx] 36 (0, 0))) := (hbc4.block _ (Array.getElem?_eq_some_iff.1 HRg.out).1).trans HRg.out
    have L0 : Hid (Lyt W4 (.slice a0 n0 c0) P0) := l0.later hb34
    have L1 : Hid (Lyt W4 (.slice a1 n1 c1) P1) := l1.later hb34
    have L2 : Hid (Lyt W4 (.slice a2 n2 c2) P2) := l2.later hb34
    have L3 : Hid (Lyt W4 (.slice a3 n3 c3) P3) := l3.later hb34
    clear l0 l1 l2 l3 hb3 hb34 hbc4 g1
    --@CUT6
    go_upto_region 5 with (refine wpList_store_new (w := w3) (by rfl) 58 _ _ (by rfl) (by rfl) _ #[.slice a0 n0 c0, .slice a1 n1 c1, .slice a2 n2 c2, .slice a3 n3 c3, .bool od, .int .i64 lo, .int .i64 hi, .int .i64 st] (by rfl) (by rfl) shapeSize (by rfl) (shapeOne _ _ _ _ _ _ _ _ _ _ _ _ _ _ _ _) ?_)
    --@CUT7
    have e4 : w3.alloc (.cells #[.slice a0 n0 c0, .slice a1 n1 c1, .slice a2 n2 c2, .slice a3 n3 c3, .bool od, .int .i64 lo, .int .i64 hi, .int .i64 st] 58) = W4 := hW4
    clear hW4
    rw [e4]
    clear e4
    generalize w3.heap.size = s6 at K6 ⊢
    rcases HCR.out with ⟨rfl, rfl, rfl⟩ | ⟨rfl, rfl, rfl, rfl⟩ | ⟨rfl, rfl, rfl, rfl⟩
    · --@CUTA
      go_wp2_with (first | (refine wpList_load_row (by rfl) _ _ (by rfl) _ (by rfl) 58 _ (0, 0) _ K6.out Try.underlying58 (by rfl) shapeSize ?_) | (refine wpList_load_row (by rfl) _ _ (by rfl) _ (by rfl) 24 _ (0, 0) _ K1.out Try.underlying24 (by rfl) insSize ?_) | (go_at_call 18; refine (HH.out _ _ _ _ _ _ _ _ _ _ _ _ _ L0.out L1.out L2.out L3.out).mono ?_; rintro e w5 ⟨rfl, hb⟩; have HB5 : Hid (Below W4.heap.size W4 w5) := hb; have K2b : Hid (w5.heap[w.heap.size + 1]? = some (.cells #[.int .u32 0, .nilFunc] 36 (0, 0))) := (hb.block _ (Array.getElem?_eq_some_iff.1 K2.out).1).trans K2.out; clear hb) | (refine wpList_store_row (by rfl) 36 _ _ (by rfl) (w.heap.size + 1) #[.int .u32 0, .nilFunc] (by rfl) (by rfl) 36 _ K2b.out formSize2 (by rfl) (formAll _ _ rfl) ?_))
      refine bodyPost_ret (v := .tuple #[.agg #[.int .u32 0, .nilFunc], .int .i64 60]) (results_cell_row_tmp Try.results10 _ _ (w.heap.size + 1) 36 #[.int .u32 0, .nilFunc] (0, 0) _ _ (by rfl) (by rfl) (setRow_same K2b.out) Try.underlying36 (by rfl) formSize2) rfl ?_
      exact ⟨rfl, below_setRow (HBW.out.trans ((HB4.out.trans (HB5.out.mono HB4.out.size)).mono (by rw [HWS.out]; omega))) (by omega)⟩
    · --@CUTB
      go_wp2_with (first | (refine wpList_load_row (by rfl) _ _ (by rfl) _ (by rfl) 58 _ (0, 0) _ K6.out Try.underlying58 (by rfl) shapeSize ?_) | (refine wpList_load_row (by rfl) _ _ (by rfl) _ (by rfl) 58 _ (0, 0) _ K6b.out Try.underlying58 (by rfl) shapeSize ?_) | (refine wpList_load_row (by rfl) _ _ (by rfl) _ (by rfl) 24 _ (0, 0) _ K1.out Try.underlying24 (by rfl) insSize ?_) | (go_at_call 18; refine (HH.out _ _ _ _ _ _ _ _ _ _ _ _ _ L0.out L1.out L2.out L3.out).mono ?_; rintro e w5 ⟨rfl, hb⟩; have HB5 : Hid (Below W4.heap.size W4 w5) := hb; have K6b : Hid (w5.heap[s6]? = some (.cells #[.slice a0 n0 c0, .slice a1 n1 c1, .slice a2 n2 c2, .slice a3 n3 c3, .bool od, .int .i64 lo, .int .i64 hi, .int .i64 st] 58 (0, 0))) := (hb.block _ (Array.getElem?_eq_some_iff.1 K6.out).1).trans K6.out; have L3b : Hid (Lyt w5 (.slice a3 n3 c3) P3) := Lyt.later L3.out hb; have d4 : w5.cell? ⟨w.heap.size, 4, none⟩ = some (.int .i64 x.imm) := cell_of_row w5 _ 4 _ _ _ ((hb.block _ (Array.getElem?_eq_some_iff.1 K1.out).1).trans K1.out); clear hb) | (go_at_call 19; refine (HQ.out _ _ _ _ _ _ _ _ _ _ _ _ _ L3b.out).mono ?_; rintro e w6 ⟨rfl, hb6⟩; have hb : Below W4.heap.size W4 w6 := HB5.out.trans (hb6.mono HB5.out.size); have HB6 : Hid (Below W4.heap.size W4 w6) := hb; have K2b : Hid (w6.heap[w.heap.size + 1]? = some (.cells #[.int .u32 0, .nilFunc] 36 (0, 0))) := (hb.block _ (Array.getElem?_eq_some_iff.1 K2.out).1).trans K2.out; have KGb : Hid (w6.heap[g]? = some (.cells #[.int .u32 fb, fx] 36 (0, 0))) := (hb.block _ (Array.getElem?_eq_some_iff.1 KG.out).1).trans KG.out; clear hb hb6) | (refine wpList_store_row (by rfl) 36 _ _ (by rfl) (w.heap.size + 1) #[.int .u32 0, .nilFunc] (by rfl) (by rfl) 36 _ K2b.out formSize2 (by rfl) (formAll _ _ rfl) ?_))
      refine bodyPost_ret (v := .tuple #[.agg #[.int .u32 0, .nilFunc], .int .i64 61]) (results_cell_row_tmp Try.results10 _ _ (w.heap.size + 1) 36 #[.int .u32 0, .nilFunc] (0, 0) _ _ (by rfl) (by rfl) (setRow_same K2b.out) Try.underlying36 (by rfl) formSize2) rfl ?_
      exact ⟨rfl, below_setRow (HBW.out.trans ((HB4.out.trans (HB6.out.mono HB4.out.size)).mono (by rw [HWS.out]; omega))) (by omega)⟩
    · --@CUTC
      go_wp2_with (first | (refine wpList_load_row (by rfl) _ _ (by rfl) _ (by rfl) 58 _ (0, 0) _ K6.out Try.underlying58 (by rfl) shapeSize ?_) | (refine wpList_load_row (by rfl) _ _ (by rfl) _ (by rfl) 58 _ (0, 0) _ K6b.out Try.underlying58 (by rfl) shapeSize ?_) | (refine wpList_load_row (by rfl) _ _ (by rfl) _ (by rfl) 24 _ (0, 0) _ K1.out Try.underlying24 (by rfl) insSize ?_) | (go_at_call 18; refine (HH.out _ _ _ _ _ _ _ _ _ _ _ _ _ L0.out L1.out L2.out L3.out).mono ?_; rintro e w5 ⟨rfl, hb⟩; have HB5 : Hid (Below W4.heap.size W4 w5) := hb; have K6b : Hid (w5.heap[s6]? = some (.cells #[.slice a0 n0 c0, .slice a1 n1 c1, .slice a2 n2 c2, .slice a3 n3 c3, .bool od, .int .i64 lo, .int .i64 hi, .int .i64 st] 58 (0, 0))) := (hb.block _ (Array.getElem?_eq_some_iff.1 K6.out).1).trans K6.out; have L3b : Hid (Lyt w5 (.slice a3 n3 c3) P3) := Lyt.later L3.out hb; have d4 : w5.cell? ⟨w.heap.size, 4, none⟩ = some (.int .i64 x.imm) := cell_of_row w5 _ 4 _ _ _ ((hb.block _ (Array.getElem?_eq_some_iff.1 K1.out).1).trans K1.out); clear hb) | (go_at_call 19; refine (HQ.out _ _ _ _ _ _ _ _ _ _ _ _ _ L3b.out).mono ?_; rintro e w6 ⟨rfl, hb6⟩; have hb : Below W4.heap.size W4 w6 := HB5.out.trans (hb6.mono HB5.out.size); have HB6 : Hid (Below W4.heap.size W4 w6) := hb; have K2b : Hid (w6.heap[w.heap.size + 1]? = some (.cells #[.int .u32 0, .nilFunc] 36 (0, 0))) := (hb.block _ (Array.getElem?_eq_some_iff.1 K2.out).1).trans K2.out; have KGb : Hid (w6.heap[g]? = some (.cells #[.int .u32 fb, fx] 36 (0, 0))) := (hb.block _ (Array.getElem?_eq_some_iff.1 KG.out).1).trans KG.out; clear hb hb6) | (refine wpList_load_row (by rfl) _ _ (by rfl) _ (by rfl) 36 _ (0, 0) _ KGb.out Try.underlying36 (by rfl) formSize2 ?_) | (refine wpList_store_row (by rfl) 36 _ _ (by rfl) (w.heap.size + 1) #[.int .u32 fb, fx] (by rfl) (by rfl) 36 _ K2b.out formSize2 (by rfl) (formAll _ _ hfx) ?_))
      rw [← HFX.out]
      refine bodyPost_ret (v := .tuple #[.agg #[.int .u32 fb, fx], .int .i64 0]) (results_cell_row_tmp Try.results10 _ _ (w.heap.size + 1) 36 #[.int .u32 fb, fx] (0, 0) _ _ (by rfl) (by rfl) (setRow_same K2b.out) Try.underlying36 (by rfl) formSize2) rfl ?_
      exact ⟨rfl, below_setRow (HBW.out.trans ((HB4.out.trans (HB6.out.mono HB4.out.size)).mono (by rw [HWS.out]; omega))) (by omega)⟩
end Go.Proofs.Ytechkhlibdkmpac
