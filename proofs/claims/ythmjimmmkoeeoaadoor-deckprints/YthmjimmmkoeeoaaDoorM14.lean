/-
  Df Dg.
-/
import Derived.Test.YthmjimmmkoeeoaaDoorM12
import Derived.Test.YthmjimmmkoeeoaaDoorM13
import Derived.Deep.RegionHeld3
import Derived.Deep.Cut
import Derived.BigRegion
import Derived.StillTailTactics
namespace Go.Proofs.YthmjimmmkoeeoaaDoor
set_option linter.unusedVariables false
set_option maxRecDepth 100000
open Go.ChangeShapes Go.WideShapes Go.ChangeAt Go.RowKit Go.Deep Go.Shelf
/-- What of the library's tables the program looks at. -/
structure Gp (w : World) : Prop where
  tz : Tz w
  pw : Pw w
theorem Gp.next {w w' : World} (h : Gp w) (b : Below w.heap.size w w') : Gp w' := ⟨h.1.next b, h.2.next b⟩
theorem bs2 (w : World) (a b : Tx) : ∀ (j : Nat) (x : Tx), [a, b][j]? = some x → (w.alloc (.cells #[.string (tS a), .string (tS b)] 9)).cell? ⟨w.heap.size, 0 + j, none⟩ = some (.string (tS x)) := fun j x hx =>
  match j, hx with
  | 0, hx => by cases hx; rw [Nat.zero_add]; exact cell_of_row _ w.heap.size 0 _ _ _ (heap_alloc_new w _)
  | 1, hx => by cases hx; rw [Nat.zero_add]; exact cell_of_row _ w.heap.size 1 _ _ _ (heap_alloc_new w _)
  | j + 2, hx => by simp at hx
theorem j2_c (w : World) (a b : Tx) (hl : (jw [a, b]).length ≤ 1000000) : Calls Tryd.prog 40 #[.slice (some ⟨w.heap.size, 0, none⟩) 2 2] (w.alloc (.cells #[.string (tS a), .string (tS b)] 9)) fun e w' => e = .returned (.string (tS (jw [a, b]))) ∧ Below w.heap.size w w' :=
  (joined_c [a, b] w.heap.size 0 2 _ (bs2 w a b) (by simp) (by simp) (by simp) hl).mono fun e w' ⟨he, hb⟩ => ⟨he, (below_alc w _).trans (hb.mono (by simp))⟩
theorem bs3 (w : World) (a b c : Tx) : ∀ (j : Nat) (x : Tx), [a, b, c][j]? = some x → (w.alloc (.cells #[.string (tS a), .string (tS b), .string (tS c)] 9)).cell? ⟨w.heap.size, 0 + j, none⟩ = some (.string (tS x)) := fun j x hx =>
  match j, hx with
  | 0, hx => by cases hx; rw [Nat.zero_add]; exact cell_of_row _ w.heap.size 0 _ _ _ (heap_alloc_new w _)
  | 1, hx => by cases hx; rw [Nat.zero_add]; exact cell_of_row _ w.heap.size 1 _ _ _ (heap_alloc_new w _)
  | 2, hx => by cases hx; rw [Nat.zero_add]; exact cell_of_row _ w.heap.size 2 _ _ _ (heap_alloc_new w _)
  | j + 3, hx => by simp at hx
theorem j3_c (w : World) (a b c : Tx) (hl : (jw [a, b, c]).length ≤ 1000000) : Calls Tryd.prog 40 #[.slice (some ⟨w.heap.size, 0, none⟩) 3 3] (w.alloc (.cells #[.string (tS a), .string (tS b), .string (tS c)] 9)) fun e w' => e = .returned (.string (tS (jw [a, b, c]))) ∧ Below w.heap.size w w' :=
  (joined_c [a, b, c] w.heap.size 0 3 _ (bs3 w a b c) (by simp) (by simp) (by simp) hl).mono fun e w' ⟨he, hb⟩ => ⟨he, (below_alc w _).trans (hb.mono (by simp))⟩
theorem bs4 (w : World) (a b c d : Tx) : ∀ (j : Nat) (x : Tx), [a, b, c, d][j]? = some x → (w.alloc (.cells #[.string (tS a), .string (tS b), .string (tS c), .string (tS d)] 9)).cell? ⟨w.heap.size, 0 + j, none⟩ = some (.string (tS x)) := fun j x hx =>
  match j, hx with
  | 0, hx => by cases hx; rw [Nat.zero_add]; exact cell_of_row _ w.heap.size 0 _ _ _ (heap_alloc_new w _)
  | 1, hx => by cases hx; rw [Nat.zero_add]; exact cell_of_row _ w.heap.size 1 _ _ _ (heap_alloc_new w _)
  | 2, hx => by cases hx; rw [Nat.zero_add]; exact cell_of_row _ w.heap.size 2 _ _ _ (heap_alloc_new w _)
  | 3, hx => by cases hx; rw [Nat.zero_add]; exact cell_of_row _ w.heap.size 3 _ _ _ (heap_alloc_new w _)
  | j + 4, hx => by simp at hx
theorem j4_c (w : World) (a b c d : Tx) (hl : (jw [a, b, c, d]).length ≤ 1000000) : Calls Tryd.prog 40 #[.slice (some ⟨w.heap.size, 0, none⟩) 4 4] (w.alloc (.cells #[.string (tS a), .string (tS b), .string (tS c), .string (tS d)] 9)) fun e w' => e = .returned (.string (tS (jw [a, b, c, d]))) ∧ Below w.heap.size w w' :=
  (joined_c [a, b, c, d] w.heap.size 0 4 _ (bs4 w a b c d) (by simp) (by simp) (by simp) hl).mono fun e w' ⟨he, hb⟩ => ⟨he, (below_alc w _).trans (hb.mono (by simp))⟩

theorem bt {a b c : World} (h : Below a.heap.size a b) (k : Below b.heap.size b c) : Below a.heap.size a c := h.trans (k.mono h.size)
theorem jw2 (a b : Tx) : (jw [a, b]).length = a.length + 1 + b.length := by rw [jw_cons, jw_one]; simp only [List.length_append, List.length_cons, List.length_nil]
theorem jw3 (a b c : Tx) : (jw [a, b, c]).length = a.length + 1 + (b.length + 1 + c.length) := by rw [jw_cons, List.length_append, jw2]; simp only [List.length_append, List.length_cons, List.length_nil]
theorem jw4 (a b c d : Tx) : (jw [a, b, c, d]).length = a.length + 1 + (b.length + 1 + (c.length + 1 + d.length)) := by rw [jw_cons, List.length_append, jw3]; simp only [List.length_append, List.length_cons, List.length_nil]
theorem rgN_len (n : Nat) (h : n < 32) : (rgN.getD n []).length ≤ 4 := by
  have : (rgN.all fun l => decide (l.length ≤ 4)) = true := by decide
  have h2 := List.all_eq_true.1 this _ (List.getElem_mem (l := rgN) (n := n) h)
  rw [List.getD_eq_getElem?_getD, List.getElem?_eq_getElem (show n < rgN.length from h)]
  exact of_decide_eq_true h2
theorem csN_len (n : Nat) (h : n < 12) : (csN.getD n []).length ≤ 13 := by
  have : (csN.all fun l => decide (l.length ≤ 13)) = true := by decide
  have h2 := List.all_eq_true.1 this _ (List.getElem_mem (l := csN) (n := n) h)
  rw [List.getD_eq_getElem?_getD, List.getElem?_eq_getElem (show n < csN.length from h)]
  exact of_decide_eq_true h2
theorem Row.xcell {w : World} {g : Nat} {k : Cp} {t : TypeId} (h : Row w g (cpc k) t) (n : Nat) (hn : n < 32) : w.cell? ⟨g, 1 + n, none⟩ = some (.int .u64 (n64 (k.x n))) := by
  rw [h.cell, cpc_at k _ (by omega), cpcell_x k n hn]
set_option maxHeartbeats 2000000 in
theorem regText_c (k : Cp) (n : Nat) (hn : n < 32) (w : World) (hG : Gp w) : Calls Tryd.prog 59 #[.agg (cpc k), .int .i64 n] w fun e w' => e = .returned (.string (tS (rgT k n))) ∧ Below w.heap.size w w' := by
  obtain ⟨W0, hW0, r0, b0, s0⟩ := start1 w (cpc k) 31
  have HS : Hid (W0.heap.size = w.heap.size + 1) := s0
  have c0 := r0.out.xcell n hn
  have HC0 : Hid (∀ w', Below W0.heap.size W0 w' → w'.cell? ⟨w.heap.size, 1 + n, none⟩ = some (.int .u64 (n64 (k.x n)))) := fun w' hb => (hb.cell (p := ⟨w.heap.size, 1 + n, none⟩) (by show w.heap.size < _; rw [s0]; omega)).trans c0
  have HG : Hid (Gp W0) := hG.next b0.out
  have hI1 : (n : Int) < 32 := by omega
  have HN : Hid (n < 32) := hn
  obtain ⟨s, hs⟩ : ∃ s, s = tS (rgT k n) := ⟨_, rfl⟩
  rw [← hs]
  have HSS : Hid (s = tS (rgT k n)) := hs
  clear hs s0 hG hn
  by_cases h0 : k.x n = 0#64
  · have hv : (n64 (k.x n) == 0) = true := by rw [h0]; rfl
    have HE : Hid (s = tS []) := by unfold Hid; rw [HSS.out]; unfold rgT; rw [if_pos h0]
    clear h0
    go_enter Tryd.func59, Tryd.ntmps59
    go_upto_region 1 with fail
    clear hW0
    go_wp2
    go_ret
    exact ⟨by rw [HE.out]; rfl, b0.out⟩
  · have hv : (n64 (k.x n) == 0) = false := n64_ne (y := 0#64) h0
    have HE : Hid (s = tS (jw [[114, 101, 103], rgN.getD n [], hxT (k.x n)])) := by unfold Hid; rw [HSS.out]; unfold rgT; rw [if_neg h0]
    have HL : Hid ((jw [[114, 101, 103], rgN.getD n [], hxT (k.x n)]).length ≤ 1000000) := by unfold Hid; rw [jw3]; have := rgN_len n HN.out; have := hxT_len (k.x n); simp only [List.length_cons, List.length_nil]; omega
    have HR : Hid (∀ w', Calls Tryd.prog 74 #[.int .i64 n] w' fun e w'' => e = .returned (.string (tS (rgN.getD n []))) ∧ Below w'.heap.size w' w'') := fun w' => by have := reg_c (n : Int) w'; rw [regS_nat n HN.out] at this; exact this
    have HGd : Hid (Gp W0.drew) := HG.out.next ((Below.refl _ _).drew)
    have HX : Hid (∀ w', Gp w' → Calls Tryd.prog 22 #[.int .u64 (n64 (k.x n))] w' fun e w'' => e = .returned (.string (tS (hxT (k.x n)))) ∧ Below w'.heap.size w' w'') := fun w' hb => phx_c _ w' hb.1
    clear h0
    generalize rgN.getD n [] = rn at HR HE HL
    generalize hxT (k.x n) = hx at HX HE HL
    go_enter Tryd.func59, Tryd.ntmps59
    go_upto_region 1 with fail
    clear hW0
    go_upto_region 3 with fail
    --@U1
    go_region_with (first
      | (go_at_call 74; refine (HR.out _).mono ?_; rintro e w1 ⟨rfl, hb⟩; have cr := HC0.out w1 ((Below.refl _ _).drew.trans hb); have HB1 : Hid _ := hb; clear hb)
      | (go_at_call 22; refine (HX.out _ (by first | exact HGd.out | exact HGd.out.next HB1.out)).mono ?_; rintro e w2 ⟨rfl, hb⟩; have HB2 : Hid _ := hb; clear hb)
      | (go_at_call 40; refine (j3_c _ [114, 101, 103] rn hx HL.out).mono ?_; rintro e w3 ⟨rfl, hb⟩; have HB3 : Hid _ := hb; clear hb))
    --@U2
    all_goals go_wp2
    all_goals go_ret
    all_goals refine ⟨by rw [HE.out]; rfl, ?_⟩
    all_goals first | exact bt b0.out (bt ((Below.refl _ _).drew) (bt HB1.out (bt HB2.out HB3.out))) | exact bt b0.out (bt ((Below.refl _ _).drew) (bt HB2.out (bt HB1.out HB3.out)))
end Go.Proofs.YthmjimmmkoeeoaaDoor
namespace Go.Proofs.YthmjimmmkoeeoaaDoor
set_option linter.unusedVariables false
set_option maxRecDepth 100000
open Go.ChangeShapes Go.WideShapes Go.ChangeAt Go.RowKit Go.Deep Go.Shelf
theorem wpList_allocZ {P : Program} {ops : Array Oper} {rest : List Oper} {o : Oper} {a : Act} {w : World} {Q : Exit → Act → World → Prop} (hgd : o.guard = none) (T : TypeId) (ho : o.op = .alloc T) (z : Array Value) (hz : ∀ w : World, (zeroValue T).run P w = .ok (.agg z) w)
    (h : wpList P ops Q rest (a.put o.dst (.pointer (some ⟨w.heap.size, 0, none⟩))) (w.alloc (.cells z T))) : wpList P ops Q (o :: rest) a w :=
  wpList_plain hgd fun _ hK => by
    have e : (execOp a.eval o).run P w = .ok (.value (.pointer (some ⟨w.heap.size, 0, none⟩))) (w.alloc (.cells z T)) := (by have hz' := hz w; generalize a.eval = ρ; simp [execOp, ho, go_sem, hz'])
    unfold Oper.wp
    rw [e]
    exact hK _ _ h
theorem later_atD {W : World} {g j : Nat} {v : Value} (hg : g < W.heap.size) (h : W.cell? ⟨g, j, none⟩ = some v) : ∀ x : Later W, x.1.cell? ⟨g, j, none⟩ = some v := fun x => (later_cell x (by exact hg)).trans h
/-- What keptCsrs answers. -/
def kT (g : Nat) : Array Value := #[.string ⟨#[109, 115, 116, 97, 116, 117, 115]⟩, .pointer (some ⟨g, 35, none⟩), .string ⟨#[109, 116, 118, 101, 99]⟩, .pointer (some ⟨g, 36, none⟩), .string ⟨#[109, 105, 101]⟩, .pointer (some ⟨g, 37, none⟩), .string ⟨#[109, 99, 111, 117, 110, 116, 101, 114, 101, 110]⟩, .pointer (some ⟨g, 38, none⟩), .string ⟨#[109, 99, 111, 117, 110, 116, 105, 110, 104, 105, 98, 105, 116]⟩, .pointer (some ⟨g, 39, none⟩), .string ⟨#[109, 101, 110, 118, 99, 102, 103]⟩, .pointer (some ⟨g, 40, none⟩), .string ⟨#[109, 115, 99, 114, 97, 116, 99, 104]⟩, .pointer (some ⟨g, 41, none⟩), .string ⟨#[109, 101, 112, 99]⟩, .pointer (some ⟨g, 42, none⟩), .string ⟨#[109, 99, 97, 117, 115, 101]⟩, .pointer (some ⟨g, 43, none⟩), .string ⟨#[109, 116, 118, 97, 108]⟩, .pointer (some ⟨g, 44, none⟩), .string ⟨#[109, 99, 121, 99, 108, 101]⟩, .pointer (some ⟨g, 45, none⟩), .string ⟨#[109, 105, 110, 115, 116, 114, 101, 116]⟩, .pointer (some ⟨g, 46, none⟩)]
def kZ : Array Value := #[.string ⟨#[]⟩, .pointer none, .string ⟨#[]⟩, .pointer none, .string ⟨#[]⟩, .pointer none, .string ⟨#[]⟩, .pointer none, .string ⟨#[]⟩, .pointer none, .string ⟨#[]⟩, .pointer none, .string ⟨#[]⟩, .pointer none, .string ⟨#[]⟩, .pointer none, .string ⟨#[]⟩, .pointer none, .string ⟨#[]⟩, .pointer none, .string ⟨#[]⟩, .pointer none, .string ⟨#[]⟩, .pointer none]
theorem kzero (w : World) : (zeroValue 122).run Tryd.prog w = .ok (.agg kZ) w := by kernel_rfl
theorem kSize (g : Nat) : (Tryd.prog.info? 122).map (·.size) = some (kT g).size := by kernel_rfl
theorem kOne (g : Nat) : (kT g).all (·.oneCell') = true := by kernel_rfl
theorem kIdx (g : Nat) : ∀ (n : Nat) (h : n < 12) (w : World), (Instr.index 122 (.agg (kT g)) (.int .i64 (n : Int))).run Tryd.prog w = .ok (.agg #[.string (tS (csN.getD n [])), .pointer (some ⟨g, 35 + n, none⟩)]) w
  | 0, _, w => by kernel_rfl
  | 1, _, w => by kernel_rfl
  | 2, _, w => by kernel_rfl
  | 3, _, w => by kernel_rfl
  | 4, _, w => by kernel_rfl
  | 5, _, w => by kernel_rfl
  | 6, _, w => by kernel_rfl
  | 7, _, w => by kernel_rfl
  | 8, _, w => by kernel_rfl
  | 9, _, w => by kernel_rfl
  | 10, _, w => by kernel_rfl
  | 11, _, w => by kernel_rfl
  | n + 12, h, _ => absurd h (by omega)
theorem kField (g n : Nat) (nm : Tx) (w : World) : (Instr.field 121 (.agg #[.string (tS nm), .pointer (some ⟨g, 35 + n, none⟩)]) 1).run Tryd.prog w = .ok (.pointer (some ⟨g, 35 + n, none⟩)) w := by kernel_rfl
set_option maxHeartbeats 2000000 in
theorem kept_c (g : Nat) (w : World) : Calls Tryd.prog 75 #[.pointer (some ⟨g, 0, none⟩)] w fun e w' => e = .returned (.agg (kT g)) ∧ Below w.heap.size w w' := by
  obtain ⟨W0, hW0, r0, b0, s0⟩ := start1 w kZ 122
  have HR0 : Hid (Row W0.drew w.heap.size kZ 122) := r0.out
  go_enter Tryd.func75, Tryd.ntmps75
  go_upto_region 1 with (refine wpList_allocZ (by rfl) 122 (by rfl) kZ kzero ?_)
  rw [hW0]
  clear hW0
  refine wp_region_still_tail 48 (by kernel_rfl) (by kernel_rfl) ?_
  change wpStill _ _ W0.drew (fun a' => wpList _ _ _ _ a' W0.drew) _ _
  simp only [List.take_succ_cons, List.take_zero, List.drop_succ_cons, List.drop_zero]
  still_step
  still_step
  still_step
  still_step
  still_step
  still_step
  still_step
  still_step
  still_step
  still_step
  still_step
  still_step
  still_step
  still_step
  still_step
  still_step
  still_step
  still_step
  still_step
  still_step
  still_step
  still_step
  still_step
  still_step
  still_step
  still_step
  still_step
  still_step
  still_step
  still_step
  still_step
  still_step
  still_step
  still_step
  still_step
  still_step
  still_step
  still_step
  still_step
  still_step
  still_step
  still_step
  still_step
  still_step
  still_step
  still_step
  still_step
  still_step
  refine wpStill_nil ?_
  have HBW : Hid (Below w.heap.size w W0.drew) := b0.out.drew
  generalize W0.drew = W1 at HR0 HBW ⊢
  --@U1
  go_wp2_with (first
    | (refine wpList_build_tab (by rfl) 122 _ (by rfl) (kT g) (by kernel_rfl) ?_)
    | (refine wpList_store_row (by rfl) 122 _ _ (by rfl) (by rfl) w.heap.size kZ (kT g) (by rfl) (by rfl) HR0.out (kSize g) (by rfl) (kOne g) ?_))
  exact bodyPost_ret (v := .agg (kT g)) (results_cell_row Tryd.results75 _ _ w.heap.size 122 (kT g) (0, 0) _ (by rfl) (setRow_heap _ _ _ _ _ _ HR0.out) Tryd.underlying122 (by rfl) (kSize g)) rfl (show _ ∧ _ from ⟨rfl, below_row HBW.out (Nat.le_refl _) _⟩)
theorem Row.scell {w : World} {g : Nat} {k : Cp} {t : TypeId} (h : Row w g (cpc k) t) (n : Nat) (hn : n < 12) : w.cell? ⟨g, 35 + n, none⟩ = some (.int .u64 (n64 (k.s n))) := by
  rw [h.cell, cpc_at k _ (by omega), cpcell_s k n hn]
theorem Row.pcc {w : World} {g : Nat} {k : Cp} {t : TypeId} (h : Row w g (cpc k) t) (n : Nat) (hn : n < 16) : w.cell? ⟨g, 47 + n, none⟩ = some (.int .u8 (n8 (k.c n))) := by
  rw [h.cell, cpc_at k _ (by omega), cpcell_p k n (by omega), pcell, if_pos hn]
theorem Row.pca {w : World} {g : Nat} {k : Cp} {t : TypeId} (h : Row w g (cpc k) t) (n : Nat) (hn : n < 16) : w.cell? ⟨g, 63 + n, none⟩ = some (.int .u64 (n64 (k.a n))) := by
  rw [h.cell, cpc_at k _ (by omega), show 63 + n = 47 + (16 + n) by omega, cpcell_p k _ (by omega), pcell, if_neg (by omega), Nat.add_sub_cancel_left]
set_option maxHeartbeats 4000000 in
theorem csrText_c (k : Cp) (n : Nat) (hn : n < 12) (w : World) (hG : Gp w) : Calls Tryd.prog 60 #[.agg (cpc k), .int .i64 n] w fun e w' => e = .returned (.string (tS (csT k n))) ∧ Below w.heap.size w w' := by
  obtain ⟨W0, hW0, r0, b0, s0⟩ := start1 w (cpc k) 31
  have HS : Hid (W0.heap.size = w.heap.size + 1) := s0
  have HGW : Hid (Gp W0) := hG.next b0.out
  have HN : Hid (n < 12) := hn
  have HP : Hid (∀ w', Calls Tryd.prog 24 #[.agg (cpc cz)] w' fun e w'' => e = .returned (.agg (cpc (PR cz))) ∧ Below w'.heap.size w' w'') := fun w' => Pr_c cz w'
  have hz := zero_cpu
  have hI1 : (n : Int) < 12 := by omega
  have hix := fun g w => kIdx g n hn w
  obtain ⟨s, hs⟩ : ∃ s, s = tS (csT k n) := ⟨_, rfl⟩
  rw [← hs]
  have HSS : Hid (s = tS (csT k n)) := hs
  clear hs s0 hG hn
  obtain ⟨nm, hnm⟩ : ∃ nm, nm = csN.getD n [] := ⟨_, rfl⟩
  rw [← hnm] at hix
  have HNM : Hid (nm = csN.getD n []) := hnm
  clear hnm
  go_enter Tryd.func60, Tryd.ntmps60
  go_upto_region 1 with fail
  clear hW0
  go_upto_region 2 with (first
    | (go_at_call 24; refine (HP.out _).mono ?_; rintro e w1 ⟨rfl, hb⟩; have HB1 : Hid (Below W0.heap.size W0 w1) := hb; clear hb HP)
    | (refine wpList_allocZ (by rfl) 31 (by rfl) (cpc cz) zero_cpu ?_)
    | (refine wpList_store_new (by rfl) 31 _ _ (by rfl) (by rfl) (cpc cz) (cpc (PR cz)) (by rfl) (by rfl) (info_cpu _) (by simp [cpc_size]) (cpc_ones _) ?_))
  --@U1
  clear hz
  obtain ⟨W2, hW2, r2, b2, s2⟩ := start1 w1 (cpc (PR cz)) 31
  rw [hW2]
  clear hW2
  have HS2 : Hid (W2.heap.size = w1.heap.size + 1) := s2
  clear s2
  go_upto_region 3 with (first | (go_at_call 75; refine (kept_c _ _).mono ?_; rintro e w3 ⟨rfl, hb⟩; have HB3 : Hid (Below W2.heap.size W2 w3) := hb; clear hb))
  --@U2
  obtain ⟨W4, hW4, r4, b4, s4⟩ := start1 w3 #[.string (tS nm), .pointer (some ⟨w.heap.size, 35 + n, none⟩)] 121
  rw [hW4]
  clear hW4
  have z1 := HB1.out.size
  have z2 := b2.out.size
  have z3 := HB3.out.size
  have zz : W0.heap.size = w.heap.size + 1 := HS.out
  have zz2 : W2.heap.size = w1.heap.size + 1 := HS2.out
  have B04 : Hid (Below W0.heap.size W0 W4) := bt HB1.out (bt b2.out (bt HB3.out b4.out))
  have B24 : Hid (Below W2.heap.size W2 W4) := bt HB3.out b4.out
  have := later_nonempty W4
  have hfd := fun w => kField w1.heap.size n nm w
  have e0 : W4.cell? ⟨w.heap.size, 35 + n, none⟩ = some (.int .u64 (n64 (k.s n))) := (B04.out.cell (p := ⟨w.heap.size, 35 + n, none⟩) (by show w.heap.size < _; omega)).trans (r0.out.scell n HN.out)
  have e1 : W4.cell? ⟨w1.heap.size, 35 + n, none⟩ = some (.int .u64 (n64 ((PR cz).s n))) := (B24.out.cell (p := ⟨w1.heap.size, 35 + n, none⟩) (by show w1.heap.size < _; omega)).trans (r2.out.scell n HN.out)
  have L0 : ∀ x : Later W4, x.1.cell? ⟨w.heap.size, 35 + n, none⟩ = some (.int .u64 (n64 (k.s n))) := later_atD (by omega) e0
  have L1 : ∀ x : Later W4, x.1.cell? ⟨w1.heap.size, 35 + n, none⟩ = some (.int .u64 (n64 ((PR cz).s n))) := later_atD (by omega) e1
  have L2 : ∀ x : Later W4, x.1.cell? ⟨w3.heap.size, 0, none⟩ = some (.string (tS nm)) := later_atD (by omega) (r4.out.cell 0)
  have L3 : ∀ x : Later W4, x.1.cell? ⟨w3.heap.size, 1, none⟩ = some (.pointer (some ⟨w.heap.size, 35 + n, none⟩)) := later_atD (by omega) (r4.out.cell 1)
  have H03 : Hid (w.heap.size < W4.heap.size ∧ w3.heap.size < W4.heap.size) := ⟨by omega, by omega⟩
  have HGW4 : Hid (Gp W4) := HGW.out.next B04.out
  have HBW4 : Hid (Below w.heap.size w W4) := bt b0.out B04.out
  have HHX : Hid (∀ w', Gp w' → Calls Tryd.prog 22 #[.int .u64 (n64 (k.s n))] w' fun e w'' => e = .returned (.string (tS (hxT (k.s n)))) ∧ Below w'.heap.size w' w'') := fun w' hb => phx_c _ w' hb.1
  have HHL : Hid ((hxT (k.s n)).length ≤ 18) := hxT_len _
  have HNL : Hid (nm.length ≤ 13) := by unfold Hid; rw [HNM.out]; exact csN_len n HN.out
  have HQ : Hid (s = tS (if k.s n = (PR cz).s n then [] else jw [[99, 115, 114], nm, hxT (k.s n)])) := by unfold Hid; rw [HSS.out, HNM.out]; rfl
  generalize hxT (k.s n) = hx at HHX HHL HQ
  generalize k.s n = u at L0 HHX HQ
  generalize (PR cz).s n = v at L1 HQ
  clear e0 e1 z1 z2 z3 zz zz2 s4
  by_cases huv : u = v
  · have hq : (n64 u == n64 v) = true := by rw [huv]; simp
    have HE : Hid (s = tS []) := by unfold Hid; rw [HQ.out, if_pos huv]
    clear huv
    refine wp_region_later (x0 := Later.start W4) (by kernel_rfl) (by kernel_rfl) ?_
    repeat (go_big_quiet_step (first | (go_at_call 75; exact calls_later (kept_c _ _))))
    refine wpQuiet_nil ?_
    rintro w' ⟨x9, rfl⟩
    go_wp2
    go_ret
    exact ⟨by rw [HE.out]; rfl, bt HBW4.out x9.below⟩
  · have hq : (n64 u == n64 v) = false := n64_ne huv
    have HE : Hid (s = tS (jw [[99, 115, 114], nm, hx])) := by unfold Hid; rw [HQ.out, if_neg huv]
    have HL : Hid ((jw [[99, 115, 114], nm, hx]).length ≤ 1000000) := by unfold Hid; rw [jw3]; have := HHL.out; have := HNL.out; simp only [List.length_cons, List.length_nil]; omega
    clear huv
    refine wp_region_later (x0 := Later.start W4) (by kernel_rfl) (by kernel_rfl) ?_
    repeat (go_big_quiet_step (first | (go_at_call 75; exact calls_later (kept_c _ _))))
    refine wpQuiet_nil ?_
    rintro w' ⟨x9, rfl⟩
    have c0 := L0 x9
    have c2 := L2 x9
    have c3 := L3 x9
    have HBX : Hid (Below W4.heap.size W4 x9.1) := x9.below
    have HGd : Hid (Gp x9.1.drew) := (HGW4.out.next HBX.out).next ((Below.refl _ _).drew)
    have H09 : Hid (w.heap.size < x9.1.heap.size ∧ w3.heap.size < x9.1.heap.size) := ⟨Nat.lt_of_lt_of_le H03.out.1 HBX.out.size, Nat.lt_of_lt_of_le H03.out.2 HBX.out.size⟩
    clear L0 L1 L2 L3
    generalize x9.1 = W5 at *
    go_upto_region 5 with fail
    --@U3
    go_region_with (first
      | (go_at_call 22; refine (HHX.out _ HGd.out).mono ?_; rintro e w6 ⟨rfl, hb⟩; have d2 := (hb.cell (p := ⟨w3.heap.size, 0, none⟩) H09.out.2).trans c2; have HB2 : Hid (Below W5.drew.heap.size W5.drew w6) := hb; clear hb)
      | (go_at_call 40; refine (j3_c _ [99, 115, 114] nm hx HL.out).mono ?_; rintro e w7 ⟨rfl, hb⟩; have HB3 : Hid _ := hb; clear hb))
    --@U4
    all_goals go_wp2
    all_goals go_ret
    all_goals exact ⟨by rw [HE.out]; rfl, bt HBW4.out (bt HBX.out (bt ((Below.refl _ _).drew) (bt HB2.out HB3.out)))⟩
end Go.Proofs.YthmjimmmkoeeoaaDoor
