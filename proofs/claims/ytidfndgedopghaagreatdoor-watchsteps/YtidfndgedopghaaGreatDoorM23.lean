/-
  Uw.
-/
import Derived.Test.YtidfndgedopghaaGreatDoorM22
import Derived.Great.BuildSlice
namespace Go.Proofs.YtidfndgedopghaaGreatDoor
set_option linter.unusedVariables false
set_option maxRecDepth 100000
set_option maxHeartbeats 4000000
open Go.ChangeShapes Go.WideShapes Go.ChangeAt Go.RowKit Go.Deep
/-- Memory while a region makes blocks: all that was there stays. -/
structure Jq (w0 : World) (L : Ly) (b : Bool) (w : World) : Prop where
  be : Below w0.heap.size w0 w
  ow : ∀ g, ¬ L.own g
theorem Jq.later {w0 : World} {L : Ly} {b : Bool} {w w' : World} (h : Jq w0 L b w) (hb : Below w.heap.size w w') : Jq w0 L b w' := ⟨h.be.trans (hb.mono h.be.size), h.ow⟩
theorem Jq.put {w0 : World} {L : Ly} {b : Bool} {w : World} (h : Jq w0 L b w) {g : Nat} (_ : ¬ L.own g) (hb : w0.heap.size ≤ g) (cs : Array Value) : Jq w0 L b (w.setRow g cs) :=
  ⟨⟨h.be.os, h.be.tape, h.be.output, by rw [setRow_size]; exact h.be.size, fun j hj => (setRow_other w g cs j (by omega)).trans (h.be.block j hj)⟩, h.ow⟩
theorem Jq.own {w0 : World} {L : Ly} {b : Bool} {w : World} (h : Jq w0 L b w) {g : Nat} (hg : L.own g) : g < w.heap.size := absurd hg (h.ow g)
theorem Jq.turn {w0 : World} {L : Ly} {w : World} (h : Jq w0 L false w) : Jq w0 L true w := ⟨h.be, h.ow⟩
theorem Jq.row {w0 : World} {L : Ly} {b : Bool} {w : World} (h : Jq w0 L b w) {g : Nat} {cs : Array Value} {t : TypeId} (hr : Row w0 g cs t) : Row w g cs t := hr.later h.be hr.lt
theorem Fr.refl' (L : Ly) (w : World) : Fr L w L w := ⟨Nat.le_refl _, fun _ _ _ => rfl, fun _ h => .inl h⟩
theorem opn_pick {P : Program} {Q : Exit → Act → World → Prop} {o : Oper} {a : Act} {w : World} {K : World → Prop} (v : Value) (h : (execOp a.eval o).run P w = .ok (.value v) w) (hk : K w) : o.wp P a w (fun a' w' => a' = a.put o.dst v ∧ K w') Q := by
  unfold Oper.wp; rw [h]; exact ⟨rfl, hk⟩
theorem sgc_cb (b : Cp) (B : St) (br bi bo : Value) (a : Cp) (A : St) (ar ai ao : Value) (tk ex so : Bool) (vi : Value) (r : Rw) (wp : Bool) (j : Nat) (v : Value) (h : (cpc b)[j]? = some v) : (sgc b B br bi bo a A ar ai ao tk ex so vi r wp)[0 + j]? = some v := by
  have q := sgc_wb b B br bi bo a A ar ai ao tk ex so vi r wp (0 + j) v (whc_c b B br bi bo j v h)
  rw [Nat.zero_add] at q; exact q
theorem sgc_ca (b : Cp) (B : St) (br bi bo : Value) (a : Cp) (A : St) (ar ai ao : Value) (tk ex so : Bool) (vi : Value) (r : Rw) (wp : Bool) (j : Nat) (v : Value) (h : (cpc a)[j]? = some v) : (sgc b B br bi bo a A ar ai ao tk ex so vi r wp)[97 + j]? = some v := by
  have q := sgc_wa b B br bi bo a A ar ai ao tk ex so vi r wp (0 + j) v (whc_c a A ar ai ao j v h)
  rw [Nat.zero_add] at q; exact q
theorem sgc_sb (b : Cp) (B : St) (br bi bo : Value) (a : Cp) (A : St) (ar ai ao : Value) (tk ex so : Bool) (vi : Value) (r : Rw) (wp : Bool) (j : Nat) (v : Value) (h : (stc B br bi bo)[j]? = some v) : (sgc b B br bi bo a A ar ai ao tk ex so vi r wp)[82 + j]? = some v := by
  have q := sgc_wb b B br bi bo a A ar ai ao tk ex so vi r wp (82 + j) v (whc_b b B br bi bo j v h)
  rw [Nat.zero_add] at q; exact q
theorem sgc_sa (b : Cp) (B : St) (br bi bo : Value) (a : Cp) (A : St) (ar ai ao : Value) (tk ex so : Bool) (vi : Value) (r : Rw) (wp : Bool) (j : Nat) (v : Value) (h : (stc A ar ai ao)[j]? = some v) : (sgc b B br bi bo a A ar ai ao tk ex so vi r wp)[179 + j]? = some v := by
  have q := sgc_wa b B br bi bo a A ar ai ao tk ex so vi r wp (82 + j) v (whc_b a A ar ai ao j v h)
  rw [show 179 + j = 97 + (82 + j) by omega]; exact q
theorem sgc_row (b : Cp) (B : St) (br bi bo : Value) (a : Cp) (A : St) (ar ai ao : Value) (tk ex so : Bool) (vi : Value) (r : Rw) (wp : Bool) (j : Nat) (v : Value) (h : (rwc r)[j]? = some v) : (sgc b B br bi bo a A ar ai ao tk ex so vi r wp)[198 + j]? = some v := by
  have hj := (Array.getElem?_eq_some_iff.1 h).1
  rw [show 198 + j = 194 + (4 + j) by omega, sgc_hi, Array.getElem?_append_right (by show 4 ≤ 4 + j; omega), show 4 + j - (#[.bool tk, .bool ex, .bool so, vi] : Array Value).size = j by show 4 + j - 4 = j; omega, Array.getElem?_append_left hj]
  exact h
def mkK (f : Nat) (gs : List Nat) : Value := .func (.func f) #[] (gs.map fun g => Value.pointer (some ⟨g, 0, none⟩)).toArray
theorem zero_bo (w : World) : (zeroValue 4).run Tryz.prog w = .ok (.bool false) w := by kernel_rfl
theorem info_bo (x : Bool) : (Tryz.prog.info? 4).map (·.size) = some (#[Value.bool x] : Array Value).size := by kernel_rfl
def rz : Rw := ⟨0, 0, 0, 0#64, 0, 0, 0#64, 0#64, 0, 0#64, 0, 0#64, 0, 0#64, 0#64, 0⟩
theorem zero_rw (w : World) : (zeroValue 52).run Tryz.prog w = .ok (.agg (rwc rz)) w := by kernel_rfl
theorem zero_busv (w : World) : (zeroValue 44).run Tryz.prog w = .ok (.agg (stc zS (.slice none 0 0) (.slice none 0 0) (.slice none 0 0))) w := by kernel_rfl
theorem st_bo (w : World) (g : Nat) (x : Bool) (h : w.heap[g]? = some (.cells #[.bool false] 4 (0, 0))) : (Instr.storeAt 4 (.pointer (some ⟨g, 0, none⟩)) (.bool x)).run Tryz.prog w = .ok () (w.setRow g #[.bool x]) := by
  have hc : w.cell? ⟨g, 0, none⟩ = some (.bool false) := cell_of_row w g 0 _ _ _ h
  have hf : w.frozen? ⟨g, 0, none⟩ = false := frozen_of_row w g 0 _ _ h
  have he := setCell_eq_setRow w g 0 #[.bool false] 4 (0, 0) (.bool x) h
  go_simp
def kF : Nat → Nat
  | 0 => 59
  | 1 => 60
  | 2 => 63
  | 3 => 65
  | 4 => 67
  | 5 => 69
  | 6 => 73
  | 7 => 74
  | 8 => 76
  | 9 => 80
  | 10 => 82
  | 11 => 85
  | 12 => 88
  | 13 => 90
  | 14 => 93
  | 15 => 94
  | 16 => 95
  | 17 => 97
  | 18 => 99
  | 19 => 102
  | _ => 0
/-- What each closure holds. -/
def kC (g1 g3 g4 g5 g6 g7 g8 g9 g10 : Nat) : Nat → List Nat
  | 0 => [g6, g5, g1]
  | 1 => [g7, g3, g4]
  | 2 => [g10, g5, g1]
  | 3 => [g7, g3, g4]
  | 4 => [g9, g5, g6, g3]
  | 5 => [g5, g6, g8, g7]
  | 6 => [g9, g4, g3]
  | 7 => [g3, g4]
  | 8 => [g9, g3, g4, g7]
  | 9 => [g7, g3, g4]
  | 10 => [g7, g3, g6, g4]
  | 11 => [g10, g7, g4, g3]
  | 12 => [g7, g4, g3]
  | 13 => [g10, g8, g6, g5, g1]
  | 14 => [g6, g5, g8]
  | 15 => [g10, g6, g1]
  | 16 => [g5, g6, g8, g7]
  | 17 => [g7, g3, g4]
  | 18 => [g7, g3]
  | 19 => [g7, g3]
  | _ => []
def kA (g1 g3 g4 g5 g6 g7 g8 g9 g10 : Nat) : Array Value := #[.int .i64 1, .func (.func 59) #[] #[.pointer (some ⟨g6, 0, none⟩), .pointer (some ⟨g5, 0, none⟩), .pointer (some ⟨g1, 0, none⟩)], .int .i64 2, .func (.func 60) #[] #[.pointer (some ⟨g7, 0, none⟩), .pointer (some ⟨g3, 0, none⟩), .pointer (some ⟨g4, 0, none⟩)], .int .i64 3, .func (.func 63) #[] #[.pointer (some ⟨g10, 0, none⟩), .pointer (some ⟨g5, 0, none⟩), .pointer (some ⟨g1, 0, none⟩)], .int .i64 4, .func (.func 65) #[] #[.pointer (some ⟨g7, 0, none⟩), .pointer (some ⟨g3, 0, none⟩), .pointer (some ⟨g4, 0, none⟩)], .int .i64 5, .func (.func 67) #[] #[.pointer (some ⟨g9, 0, none⟩), .pointer (some ⟨g5, 0, none⟩), .pointer (some ⟨g6, 0, none⟩), .pointer (some ⟨g3, 0, none⟩)], .int .i64 6, .func (.func 69) #[] #[.pointer (some ⟨g5, 0, none⟩), .pointer (some ⟨g6, 0, none⟩), .pointer (some ⟨g8, 0, none⟩), .pointer (some ⟨g7, 0, none⟩)], .int .i64 7, .func (.func 73) #[] #[.pointer (some ⟨g9, 0, none⟩), .pointer (some ⟨g4, 0, none⟩), .pointer (some ⟨g3, 0, none⟩)], .int .i64 8, .func (.func 74) #[] #[.pointer (some ⟨g3, 0, none⟩), .pointer (some ⟨g4, 0, none⟩)], .int .i64 9, .func (.func 76) #[] #[.pointer (some ⟨g9, 0, none⟩), .pointer (some ⟨g3, 0, none⟩), .pointer (some ⟨g4, 0, none⟩), .pointer (some ⟨g7, 0, none⟩)], .int .i64 10, .func (.func 80) #[] #[.pointer (some ⟨g7, 0, none⟩), .pointer (some ⟨g3, 0, none⟩), .pointer (some ⟨g4, 0, none⟩)], .int .i64 11, .func (.func 82) #[] #[.pointer (some ⟨g7, 0, none⟩), .pointer (some ⟨g3, 0, none⟩), .pointer (some ⟨g6, 0, none⟩), .pointer (some ⟨g4, 0, none⟩)], .int .i64 12, .func (.func 85) #[] #[.pointer (some ⟨g10, 0, none⟩), .pointer (some ⟨g7, 0, none⟩), .pointer (some ⟨g4, 0, none⟩), .pointer (some ⟨g3, 0, none⟩)], .int .i64 13, .func (.func 88) #[] #[.pointer (some ⟨g7, 0, none⟩), .pointer (some ⟨g4, 0, none⟩), .pointer (some ⟨g3, 0, none⟩)], .int .i64 14, .func (.func 90) #[] #[.pointer (some ⟨g10, 0, none⟩), .pointer (some ⟨g8, 0, none⟩), .pointer (some ⟨g6, 0, none⟩), .pointer (some ⟨g5, 0, none⟩), .pointer (some ⟨g1, 0, none⟩)], .int .i64 15, .func (.func 93) #[] #[.pointer (some ⟨g6, 0, none⟩), .pointer (some ⟨g5, 0, none⟩), .pointer (some ⟨g8, 0, none⟩)], .int .i64 16, .func (.func 94) #[] #[.pointer (some ⟨g10, 0, none⟩), .pointer (some ⟨g6, 0, none⟩), .pointer (some ⟨g1, 0, none⟩)], .int .i64 17, .func (.func 95) #[] #[.pointer (some ⟨g5, 0, none⟩), .pointer (some ⟨g6, 0, none⟩), .pointer (some ⟨g8, 0, none⟩), .pointer (some ⟨g7, 0, none⟩)], .int .i64 18, .func (.func 97) #[] #[.pointer (some ⟨g7, 0, none⟩), .pointer (some ⟨g3, 0, none⟩), .pointer (some ⟨g4, 0, none⟩)], .int .i64 19, .func (.func 99) #[] #[.pointer (some ⟨g7, 0, none⟩), .pointer (some ⟨g3, 0, none⟩)], .int .i64 20, .func (.func 102) #[] #[.pointer (some ⟨g7, 0, none⟩), .pointer (some ⟨g3, 0, none⟩)]]
/-- What rules makes of a sight: the blocks of its variables, and the row of rules. -/
structure Rls (b : Cp) (B : St) (br bi bo : Value) (a : Cp) (A : St) (ar ai ao : Value) (tk ex so : Bool) (vi : Value) (r : Rw) (wp : Bool) (g g1 g3 g4 g5 g6 g7 g8 g9 g10 : Nat) (w : World) : Prop where
  sgt : Row w g1 (sgc b B br bi bo a A ar ai ao tk ex so vi r wp) 73
  kb : Row w g3 (cpc b) 32
  ka : Row w g4 (cpc a) 32
  was : Row w g5 (stc B br bi bo) 44
  is : Row w g6 (stc A ar ai ao) 44
  rw_ : Row w g7 (rwc r) 52
  pl : Row w g8 (plc2 (stP r)) 97
  fu : Row w g9 (#[.bool (b.md == 0)]) 4
  off : Row w g10 (#[.bool (r.kd == 5)]) 4
  tab : Row w g (kA g1 g3 g4 g5 g6 g7 g8 g9 g10) 77
set_option maxHeartbeats 8000000 in
theorem rules_c (b : Cp) (B : St) (br bi bo : Value) (a : Cp) (A : St) (ar ai ao : Value) (tk ex so : Bool) (vi : Value) (r : Rw) (wp : Bool) (hOB : (stc B br bi bo).all (·.oneCell') = true) (hOA : (stc A ar ai ao).all (·.oneCell') = true) (w : World) : Calls Tryz.prog 32 #[.agg (sgc b B br bi bo a A ar ai ao tk ex so vi r wp)] w fun e w' => ∃ g g1 g3 g4 g5 g6 g7 g8 g9 g10, e = .returned (.slice (some ⟨g, 0, none⟩) 20 20) ∧ Rls b B br bi bo a A ar ai ao tk ex so vi r wp g g1 g3 g4 g5 g6 g7 g8 g9 g10 w' ∧ Below w.heap.size w w' := by
  obtain ⟨W0, hW0, r0, b0, s0⟩ := start1 w (sgc b B br bi bo a A ar ai ao tk ex so vi r wp) 73
  have BB := Hid.mkU b0.out
  clear s0 b0
  go_enter Tryz.func32, Tryz.ntmps32
  go_upto_region 1 with fail
  clear hW0
  refine wp_region_calls (by kernel_rfl) (fun i => ([[], [0], [1], [], [3], [4], [], [], [6, 2], [7, 5]] : List (List Nat)).getD i []) (fun i => ([some (.pointer (some ⟨w.heap.size, 0, none⟩)), some (.pointer (some ⟨w.heap.size, 0, none⟩)), some (.agg (cpc b)), some (.pointer (some ⟨w.heap.size, 97, none⟩)), some (.pointer (some ⟨w.heap.size, 97, none⟩)), some (.agg (cpc a)), none, none, none, none] : List (Option Value)).getD i none) [⟨6, 8, 2, 32, cpc cz, cpc b, .agg (cpc b)⟩, ⟨7, 9, 5, 32, cpc cz, cpc a, .agg (cpc a)⟩] 0 W0.heap.size (Jq W0) _ W0 (by kernel_rfl) (by kernel_rfl) ?_ ⟨fun _ => False⟩ (⟨(Below.refl _ _).drew, fun _ h => h⟩) rfl (by decide) ?_ (fun L b w w' h hb => h.later hb) (fun L b w q cs h hq hb => h.put hq hb cs) (fun L b w q h hq => h.own hq) (hop_list ⟨?_, ?_, ?_, ?_, ?_, ?_, ?_, ?_, ?_, ?_, trivial⟩) ?_
  · intro p hp q hq e
    rcases List.mem_cons.1 hp with rfl | hp
    · rcases List.mem_cons.1 hq with rfl | hq
      · rfl
      · rw [List.mem_singleton.1 hq] at e; exact absurd (show (6 : Nat) = 7 from e) (by decide)
    · rw [List.mem_singleton.1 hp] at e ⊢
      rcases List.mem_cons.1 hq with rfl | hq
      · exact absurd (show (7 : Nat) = 6 from e) (by decide)
      · rw [List.mem_singleton.1 hq]
  · intro q hq
    rcases List.mem_cons.1 hq with rfl | hq
    · exact ⟨(by show 6 < _; decide), (by show 8 < _; decide)⟩
    · rw [List.mem_singleton.1 hq]
      exact ⟨(by show 7 < _; decide), (by show 9 < _; decide)⟩
  · refine .call (.pointer (some ⟨w.heap.size, 0, none⟩)) rfl rfl (by simp) (fun ac w9 L9 ho hn hJ => ?_)
    have q0 : ac.eval (.tmp 1) = .pointer (some ⟨w.heap.size, 0, none⟩) := (ho 1 (by kernel_rfl)).trans rfl
    refine wpOp_plain rfl rfl ?_
    refine opn_pick (.pointer (some ⟨w.heap.size, 0, none⟩)) ?_ ⟨L9, hJ.turn, Fr.refl' _ _⟩
    clear ho hn
    generalize ac.eval = ρ at *
    simp [execOp, q0, go_sem]
  · refine opn_val (.pointer (some ⟨w.heap.size, 0, none⟩)) rfl rfl (by simp) rfl (by decide) (fun ac w9 L9 b9 ho hn hJ => ?_)
    have q0 : ac.eval (.tmp 11) = .pointer (some ⟨w.heap.size, 0, none⟩) := hn 0 (by decide) _ rfl
    clear ho hn
    generalize ac.eval = ρ at *
    simp [execOp, q0, go_sem]
  · refine opn_val (.agg (cpc b)) rfl rfl (by simp) rfl (by decide) (fun ac w9 L9 b9 ho hn hJ => ?_)
    have q0 : ac.eval (.tmp 12) = .pointer (some ⟨w.heap.size, 0, none⟩) := hn 1 (by decide) _ rfl
    have hl := ld_aggs (P := Tryz.prog) 32 w.heap.size 0 (cpc b) _ w9 (fun j v hv => ((hJ.row r0.out).cell (0 + j)).trans (sgc_cb _ _ _ _ _ _ _ _ _ _ _ _ _ _ _ _  j v hv)) Tryz.underlying32 (by rfl) (info_cpuU _)
    clear ho hn
    generalize ac.eval = ρ at *
    simp only [execOp, q0]
    exact hl
  · refine opn_val (.pointer (some ⟨w.heap.size, 97, none⟩)) rfl rfl (by simp) rfl (by decide) (fun ac w9 L9 b9 ho hn hJ => ?_)
    have q0 : ac.eval (.tmp 1) = .pointer (some ⟨w.heap.size, 0, none⟩) := (ho 1 (by kernel_rfl)).trans rfl
    clear ho hn
    generalize ac.eval = ρ at *
    simp [execOp, q0, go_sem]
  · refine opn_val (.pointer (some ⟨w.heap.size, 97, none⟩)) rfl rfl (by simp) rfl (by decide) (fun ac w9 L9 b9 ho hn hJ => ?_)
    have q0 : ac.eval (.tmp 14) = .pointer (some ⟨w.heap.size, 97, none⟩) := hn 3 (by decide) _ rfl
    clear ho hn
    generalize ac.eval = ρ at *
    simp [execOp, q0, go_sem]
  · refine opn_val (.agg (cpc a)) rfl rfl (by simp) rfl (by decide) (fun ac w9 L9 b9 ho hn hJ => ?_)
    have q0 : ac.eval (.tmp 15) = .pointer (some ⟨w.heap.size, 97, none⟩) := hn 4 (by decide) _ rfl
    have hl := ld_aggs (P := Tryz.prog) 32 w.heap.size 97 (cpc a) _ w9 (fun j v hv => ((hJ.row r0.out).cell (97 + j)).trans (sgc_ca _ _ _ _ _ _ _ _ _ _ _ _ _ _ _ _  j v hv)) Tryz.underlying32 (by rfl) (info_cpuU _)
    clear ho hn
    generalize ac.eval = ρ at *
    simp only [execOp, q0]
    exact hl
  · refine opn_made ⟨6, 8, 2, 32, cpc cz, cpc b, .agg (cpc b)⟩ rfl rfl (by simp) (by simp) rfl (fun ac w9 => ?_)
    have hz := zero_cpu w9
    generalize ac.eval = ρ
    simp [execOp, go_sem, hz, ptr]
  · refine opn_made ⟨7, 9, 5, 32, cpc cz, cpc a, .agg (cpc a)⟩ rfl rfl (by simp) (by simp) rfl (fun ac w9 => ?_)
    have hz := zero_cpu w9
    generalize ac.eval = ρ
    simp [execOp, go_sem, hz, ptr]
  · exact opn_stored ⟨6, 8, 2, 32, cpc cz, cpc b, .agg (cpc b)⟩ (.tmp 3) (.tmp 13) rfl rfl rfl (by simp) rfl rfl ⟨(by show (6 : Nat) ∈ [6, 2]; decide), (by show (2 : Nat) ∈ [6, 2]; decide)⟩ rfl (fun ac => rfl) (fun ac => rfl) (info_cpuU _) (by rw [cpc_size, cpc_size]) (cpc_ones _)
  · exact opn_stored ⟨7, 9, 5, 32, cpc cz, cpc a, .agg (cpc a)⟩ (.tmp 4) (.tmp 16) rfl rfl rfl (by simp) rfl rfl ⟨(by show (7 : Nat) ∈ [7, 5]; decide), (by show (5 : Nat) ∈ [7, 5]; decide)⟩ rfl (fun ac => rfl) (fun ac => rfl) (info_cpuU _) (by rw [cpc_size, cpc_size]) (cpc_ones _)
  · intro w5 L5 pg hJ hit hdj
    have i1 := (hit ⟨6, 8, 2, 32, cpc cz, cpc b, .agg (cpc b)⟩ (by simp)).1
    have i2 := (hit ⟨7, 9, 5, 32, cpc cz, cpc a, .agg (cpc a)⟩ (by simp)).1
    have j1 := (hit ⟨6, 8, 2, 32, cpc cz, cpc b, .agg (cpc b)⟩ (by simp)).2.2
    have j2 := (hit ⟨7, 9, 5, 32, cpc cz, cpc a, .agg (cpc a)⟩ (by simp)).2.2
    simp only [putAll, Act.put, List.getD_cons_zero, List.getD_cons_succ, Option.getD_some, Option.getD_none, List.setIfInBounds_toArray, List.set_cons_zero, List.set_cons_succ]
    simp only [Nat.reduceAdd, ptr]
    simp only at i1 i2 j1 j2
    generalize pg 6 = g3 at *
    generalize pg 7 = g4 at *
    have Hg3 : Hid (Row w5 g3 (cpc b) 32) := i1
    have Hg4 : Hid (Row w5 g4 (cpc a) 32) := i2
    have HJw5 := Hid.mkU hJ.be
    clear i1 i2 j1 j2 hit hdj hJ pg L5
    have r0' := Hid.mkU (r0.out.later HJw5.out r0.out.lt)
    clear r0
    have r0 := r0'
    clear r0'
    have BB' := Hid.mkU (BB.out.trans (HJw5.out.mono BB.out.size))
    clear BB HJw5
    have BB := BB'
    clear BB'
    --@R2
    go_upto_region 2 with fail
    refine wp_region_calls (by kernel_rfl) (fun i => ([[], [0], [1], [], [3], [4], [], [], [6, 2], [7, 5]] : List (List Nat)).getD i []) (fun i => ([some (.pointer (some ⟨w.heap.size, 0, none⟩)), some (.pointer (some ⟨w.heap.size, 82, none⟩)), some (.agg (stc B br bi bo)), some (.pointer (some ⟨w.heap.size, 97, none⟩)), some (.pointer (some ⟨w.heap.size, 179, none⟩)), some (.agg (stc A ar ai ao)), none, none, none, none] : List (Option Value)).getD i none) [⟨6, 8, 2, 44, stc zS (.slice none 0 0) (.slice none 0 0) (.slice none 0 0), stc B br bi bo, .agg (stc B br bi bo)⟩, ⟨7, 9, 5, 44, stc zS (.slice none 0 0) (.slice none 0 0) (.slice none 0 0), stc A ar ai ao, .agg (stc A ar ai ao)⟩] 0 w5.heap.size (Jq w5) _ w5 (by kernel_rfl) (by kernel_rfl) ?_ ⟨fun _ => False⟩ (⟨(Below.refl _ _).drew, fun _ h => h⟩) rfl (by decide) ?_ (fun L b w w' h hb => h.later hb) (fun L b w q cs h hq hb => h.put hq hb cs) (fun L b w q h hq => h.own hq) (hop_list ⟨?_, ?_, ?_, ?_, ?_, ?_, ?_, ?_, ?_, ?_, trivial⟩) ?_
    · intro p hp q hq e
      rcases List.mem_cons.1 hp with rfl | hp
      · rcases List.mem_cons.1 hq with rfl | hq
        · rfl
        · rw [List.mem_singleton.1 hq] at e; exact absurd (show (6 : Nat) = 7 from e) (by decide)
      · rw [List.mem_singleton.1 hp] at e ⊢
        rcases List.mem_cons.1 hq with rfl | hq
        · exact absurd (show (7 : Nat) = 6 from e) (by decide)
        · rw [List.mem_singleton.1 hq]
    · intro q hq
      rcases List.mem_cons.1 hq with rfl | hq
      · exact ⟨(by show 6 < _; decide), (by show 8 < _; decide)⟩
      · rw [List.mem_singleton.1 hq]
        exact ⟨(by show 7 < _; decide), (by show 9 < _; decide)⟩
    · refine .call (.pointer (some ⟨w.heap.size, 0, none⟩)) rfl rfl (by simp) (fun ac w9 L9 ho hn hJ => ?_)
      have q0 : ac.eval (.tmp 1) = .pointer (some ⟨w.heap.size, 0, none⟩) := (ho 1 (by kernel_rfl)).trans rfl
      refine wpOp_plain rfl rfl ?_
      refine opn_pick (.pointer (some ⟨w.heap.size, 0, none⟩)) ?_ ⟨L9, hJ.turn, Fr.refl' _ _⟩
      clear ho hn
      generalize ac.eval = ρ at *
      simp [execOp, q0, go_sem]
    · refine opn_val (.pointer (some ⟨w.heap.size, 82, none⟩)) rfl rfl (by simp) rfl (by decide) (fun ac w9 L9 b9 ho hn hJ => ?_)
      have q0 : ac.eval (.tmp 17) = .pointer (some ⟨w.heap.size, 0, none⟩) := hn 0 (by decide) _ rfl
      clear ho hn
      generalize ac.eval = ρ at *
      simp [execOp, q0, go_sem]
    · refine opn_val (.agg (stc B br bi bo)) rfl rfl (by simp) rfl (by decide) (fun ac w9 L9 b9 ho hn hJ => ?_)
      have q0 : ac.eval (.tmp 18) = .pointer (some ⟨w.heap.size, 82, none⟩) := hn 1 (by decide) _ rfl
      have hl := ld_aggs (P := Tryz.prog) 44 w.heap.size 82 (stc B br bi bo) _ w9 (fun j v hv => ((hJ.row r0.out).cell (82 + j)).trans (sgc_sb _ _ _ _ _ _ _ _ _ _ _ _ _ _ _ _  j v hv)) Tryz.underlying44 (by rfl) (info_bst _ _ _ _)
      clear ho hn
      generalize ac.eval = ρ at *
      simp only [execOp, q0]
      exact hl
    · refine opn_val (.pointer (some ⟨w.heap.size, 97, none⟩)) rfl rfl (by simp) rfl (by decide) (fun ac w9 L9 b9 ho hn hJ => ?_)
      have q0 : ac.eval (.tmp 1) = .pointer (some ⟨w.heap.size, 0, none⟩) := (ho 1 (by kernel_rfl)).trans rfl
      clear ho hn
      generalize ac.eval = ρ at *
      simp [execOp, q0, go_sem]
    · refine opn_val (.pointer (some ⟨w.heap.size, 179, none⟩)) rfl rfl (by simp) rfl (by decide) (fun ac w9 L9 b9 ho hn hJ => ?_)
      have q0 : ac.eval (.tmp 20) = .pointer (some ⟨w.heap.size, 97, none⟩) := hn 3 (by decide) _ rfl
      clear ho hn
      generalize ac.eval = ρ at *
      simp [execOp, q0, go_sem]
    · refine opn_val (.agg (stc A ar ai ao)) rfl rfl (by simp) rfl (by decide) (fun ac w9 L9 b9 ho hn hJ => ?_)
      have q0 : ac.eval (.tmp 21) = .pointer (some ⟨w.heap.size, 179, none⟩) := hn 4 (by decide) _ rfl
      have hl := ld_aggs (P := Tryz.prog) 44 w.heap.size 179 (stc A ar ai ao) _ w9 (fun j v hv => ((hJ.row r0.out).cell (179 + j)).trans (sgc_sa _ _ _ _ _ _ _ _ _ _ _ _ _ _ _ _  j v hv)) Tryz.underlying44 (by rfl) (info_bst _ _ _ _)
      clear ho hn
      generalize ac.eval = ρ at *
      simp only [execOp, q0]
      exact hl
    · refine opn_made ⟨6, 8, 2, 44, stc zS (.slice none 0 0) (.slice none 0 0) (.slice none 0 0), stc B br bi bo, .agg (stc B br bi bo)⟩ rfl rfl (by simp) (by simp) rfl (fun ac w9 => ?_)
      have hz := zero_busv w9
      generalize ac.eval = ρ
      simp [execOp, go_sem, hz, ptr]
    · refine opn_made ⟨7, 9, 5, 44, stc zS (.slice none 0 0) (.slice none 0 0) (.slice none 0 0), stc A ar ai ao, .agg (stc A ar ai ao)⟩ rfl rfl (by simp) (by simp) rfl (fun ac w9 => ?_)
      have hz := zero_busv w9
      generalize ac.eval = ρ
      simp [execOp, go_sem, hz, ptr]
    · exact opn_stored ⟨6, 8, 2, 44, stc zS (.slice none 0 0) (.slice none 0 0) (.slice none 0 0), stc B br bi bo, .agg (stc B br bi bo)⟩ (.tmp 5) (.tmp 19) rfl rfl rfl (by simp) rfl rfl ⟨(by show (6 : Nat) ∈ [6, 2]; decide), (by show (2 : Nat) ∈ [6, 2]; decide)⟩ rfl (fun ac => rfl) (fun ac => rfl) (info_bst _ _ _ _) (rfl) (hOB)
    · exact opn_stored ⟨7, 9, 5, 44, stc zS (.slice none 0 0) (.slice none 0 0) (.slice none 0 0), stc A ar ai ao, .agg (stc A ar ai ao)⟩ (.tmp 6) (.tmp 22) rfl rfl rfl (by simp) rfl rfl ⟨(by show (7 : Nat) ∈ [7, 5]; decide), (by show (5 : Nat) ∈ [7, 5]; decide)⟩ rfl (fun ac => rfl) (fun ac => rfl) (info_bst _ _ _ _) (rfl) (hOA)
    · intro w6 L5 pg hJ hit hdj
      have i1 := (hit ⟨6, 8, 2, 44, stc zS (.slice none 0 0) (.slice none 0 0) (.slice none 0 0), stc B br bi bo, .agg (stc B br bi bo)⟩ (by simp)).1
      have i2 := (hit ⟨7, 9, 5, 44, stc zS (.slice none 0 0) (.slice none 0 0) (.slice none 0 0), stc A ar ai ao, .agg (stc A ar ai ao)⟩ (by simp)).1
      have j1 := (hit ⟨6, 8, 2, 44, stc zS (.slice none 0 0) (.slice none 0 0) (.slice none 0 0), stc B br bi bo, .agg (stc B br bi bo)⟩ (by simp)).2.2
      have j2 := (hit ⟨7, 9, 5, 44, stc zS (.slice none 0 0) (.slice none 0 0) (.slice none 0 0), stc A ar ai ao, .agg (stc A ar ai ao)⟩ (by simp)).2.2
      simp only [putAll, Act.put, List.getD_cons_zero, List.getD_cons_succ, Option.getD_some, Option.getD_none, List.setIfInBounds_toArray, List.set_cons_zero, List.set_cons_succ]
      simp only [Nat.reduceAdd, ptr]
      simp only at i1 i2 j1 j2
      generalize pg 6 = g5 at *
      generalize pg 7 = g6 at *
      have Hg5 : Hid (Row w6 g5 (stc B br bi bo) 44) := i1
      have Hg6 : Hid (Row w6 g6 (stc A ar ai ao) 44) := i2
      have HJw6 := Hid.mkU hJ.be
      clear i1 i2 j1 j2 hit hdj hJ pg L5
      have r0' := Hid.mkU (r0.out.later HJw6.out r0.out.lt)
      clear r0
      have r0 := r0'
      clear r0'
      have Hg3' := Hid.mkU (Hg3.out.later HJw6.out Hg3.out.lt)
      clear Hg3
      have Hg3 := Hg3'
      clear Hg3'
      have Hg4' := Hid.mkU (Hg4.out.later HJw6.out Hg4.out.lt)
      clear Hg4
      have Hg4 := Hg4'
      clear Hg4'
      have BB' := Hid.mkU (BB.out.trans (HJw6.out.mono BB.out.size))
      clear BB HJw6
      have BB := BB'
      clear BB'
      --@R3
      go_upto_region 3 with fail
      refine wp_region_calls (by kernel_rfl) (fun i => ([[], [0], [], [2], [3], [], [], [5, 1], [6, 4]] : List (List Nat)).getD i []) (fun i => ([some (.pointer (some ⟨w.heap.size, 198, none⟩)), some (.agg (rwc r)), some (.pointer (some ⟨w.heap.size, 198, none⟩)), some (.agg (rwc r)), some (.agg (plc2 (stP r))), none, none, none, none] : List (Option Value)).getD i none) [⟨5, 7, 1, 52, rwc rz, rwc r, .agg (rwc r)⟩, ⟨6, 8, 4, 97, #[.int .u64 0, .int .u64 0], plc2 (stP r), .agg (plc2 (stP r))⟩] 2 w6.heap.size (Jq w6) _ w6 (by kernel_rfl) (by kernel_rfl) ?_ ⟨fun _ => False⟩ (⟨(Below.refl _ _).drew, fun _ h => h⟩) rfl (by decide) ?_ (fun L b w w' h hb => h.later hb) (fun L b w q cs h hq hb => h.put hq hb cs) (fun L b w q h hq => h.own hq) (hop_list ⟨?_, ?_, ?_, ?_, ?_, ?_, ?_, ?_, ?_, trivial⟩) ?_
      · intro p hp q hq e
        rcases List.mem_cons.1 hp with rfl | hp
        · rcases List.mem_cons.1 hq with rfl | hq
          · rfl
          · rw [List.mem_singleton.1 hq] at e; exact absurd (show (5 : Nat) = 6 from e) (by decide)
        · rw [List.mem_singleton.1 hp] at e ⊢
          rcases List.mem_cons.1 hq with rfl | hq
          · exact absurd (show (6 : Nat) = 5 from e) (by decide)
          · rw [List.mem_singleton.1 hq]
      · intro q hq
        rcases List.mem_cons.1 hq with rfl | hq
        · exact ⟨(by show 5 < _; decide), (by show 7 < _; decide)⟩
        · rw [List.mem_singleton.1 hq]
          exact ⟨(by show 6 < _; decide), (by show 8 < _; decide)⟩
      · refine opn_val (.pointer (some ⟨w.heap.size, 198, none⟩)) rfl rfl (by simp) rfl (by decide) (fun ac w9 L9 b9 ho hn hJ => ?_)
        have q0 : ac.eval (.tmp 1) = .pointer (some ⟨w.heap.size, 0, none⟩) := (ho 1 (by kernel_rfl)).trans rfl
        clear ho hn
        generalize ac.eval = ρ at *
        simp [execOp, q0, go_sem]
      · refine opn_val (.agg (rwc r)) rfl rfl (by simp) rfl (by decide) (fun ac w9 L9 b9 ho hn hJ => ?_)
        have q0 : ac.eval (.tmp 23) = .pointer (some ⟨w.heap.size, 198, none⟩) := hn 0 (by decide) _ rfl
        have hl := ld_aggs (P := Tryz.prog) 52 w.heap.size 198 (rwc r) _ w9 (fun j v hv => ((hJ.row r0.out).cell (198 + j)).trans (sgc_row _ _ _ _ _ _ _ _ _ _ _ _ _ _ _ _  j v hv)) Tryz.underlying52 (by rfl) (info_rw _)
        clear ho hn
        generalize ac.eval = ρ at *
        simp only [execOp, q0]
        exact hl
      · refine .call (.pointer (some ⟨w.heap.size, 198, none⟩)) rfl rfl (by simp) (fun ac w9 L9 ho hn hJ => ?_)
        have q0 : ac.eval (.tmp 1) = .pointer (some ⟨w.heap.size, 0, none⟩) := (ho 1 (by kernel_rfl)).trans rfl
        refine wpOp_plain rfl rfl ?_
        refine opn_pick (.pointer (some ⟨w.heap.size, 198, none⟩)) ?_ ⟨L9, hJ.turn, Fr.refl' _ _⟩
        clear ho hn
        generalize ac.eval = ρ at *
        simp [execOp, q0, go_sem]
      · refine opn_val (.agg (rwc r)) rfl rfl (by simp) rfl (by decide) (fun ac w9 L9 b9 ho hn hJ => ?_)
        have q0 : ac.eval (.tmp 25) = .pointer (some ⟨w.heap.size, 198, none⟩) := hn 2 (by decide) _ rfl
        have hl := ld_aggs (P := Tryz.prog) 52 w.heap.size 198 (rwc r) _ w9 (fun j v hv => ((hJ.row r0.out).cell (198 + j)).trans (sgc_row _ _ _ _ _ _ _ _ _ _ _ _ _ _ _ _  j v hv)) Tryz.underlying52 (by rfl) (info_rw _)
        clear ho hn
        generalize ac.eval = ρ at *
        simp only [execOp, q0]
        exact hl
      · refine opn_quiet (.agg (plc2 (stP r))) 58 #[.agg (rwc r)] rfl rfl (by simp) rfl (by decide) (fun ac w9 L9 b9 ho hn hJ => ?_) (fun w9 L9 b9 hJ => ?_)
        ·
          have q0 : ac.eval (.tmp 26) = .agg (rwc r) := hn 3 (by decide) _ rfl
          have hf : ac.eval (.func 58) = .func (.func 58) #[] #[] := rfl
          clear ho hn
          generalize ac.eval = ρ at *
          simp [execOp, q0, hf, go_sem]
        · exact uSto_c r w9
      · refine opn_made ⟨5, 7, 1, 52, rwc rz, rwc r, .agg (rwc r)⟩ rfl rfl (by simp) (by simp) rfl (fun ac w9 => ?_)
        have hz := zero_rw w9
        generalize ac.eval = ρ
        simp [execOp, go_sem, hz, ptr]
      · refine opn_made ⟨6, 8, 4, 97, #[.int .u64 0, .int .u64 0], plc2 (stP r), .agg (plc2 (stP r))⟩ rfl rfl (by simp) (by simp) rfl (fun ac w9 => ?_)
        have hz := zero_pl w9
        generalize ac.eval = ρ
        simp [execOp, go_sem, hz, ptr]
      · exact opn_stored ⟨5, 7, 1, 52, rwc rz, rwc r, .agg (rwc r)⟩ (.tmp 7) (.tmp 24) rfl rfl rfl (by simp) rfl rfl ⟨(by show (5 : Nat) ∈ [5, 1]; decide), (by show (1 : Nat) ∈ [5, 1]; decide)⟩ rfl (fun ac => rfl) (fun ac => rfl) (info_rw _) (rfl) (rwc_ones _)
      · exact opn_stored ⟨6, 8, 4, 97, #[.int .u64 0, .int .u64 0], plc2 (stP r), .agg (plc2 (stP r))⟩ (.tmp 8) (.tmp 27) rfl rfl rfl (by simp) rfl rfl ⟨(by show (6 : Nat) ∈ [6, 4]; decide), (by show (4 : Nat) ∈ [6, 4]; decide)⟩ rfl (fun ac => rfl) (fun ac => rfl) (info_pl _) (rfl) (plc2_ones _)
      · intro w7 L5 pg hJ hit hdj
        have i1 := (hit ⟨5, 7, 1, 52, rwc rz, rwc r, .agg (rwc r)⟩ (by simp)).1
        have i2 := (hit ⟨6, 8, 4, 97, #[.int .u64 0, .int .u64 0], plc2 (stP r), .agg (plc2 (stP r))⟩ (by simp)).1
        have j1 := (hit ⟨5, 7, 1, 52, rwc rz, rwc r, .agg (rwc r)⟩ (by simp)).2.2
        have j2 := (hit ⟨6, 8, 4, 97, #[.int .u64 0, .int .u64 0], plc2 (stP r), .agg (plc2 (stP r))⟩ (by simp)).2.2
        simp only [putAll, Act.put, List.getD_cons_zero, List.getD_cons_succ, Option.getD_some, Option.getD_none, List.setIfInBounds_toArray, List.set_cons_zero, List.set_cons_succ]
        simp only [Nat.reduceAdd, ptr]
        simp only at i1 i2 j1 j2
        generalize pg 5 = g7 at *
        generalize pg 6 = g8 at *
        have Hg7 : Hid (Row w7 g7 (rwc r) 52) := i1
        have Hg8 : Hid (Row w7 g8 (plc2 (stP r)) 97) := i2
        have HJw7 := Hid.mkU hJ.be
        clear i1 i2 j1 j2 hit hdj hJ pg L5
        have r0' := Hid.mkU (r0.out.later HJw7.out r0.out.lt)
        clear r0
        have r0 := r0'
        clear r0'
        have Hg3' := Hid.mkU (Hg3.out.later HJw7.out Hg3.out.lt)
        clear Hg3
        have Hg3 := Hg3'
        clear Hg3'
        have Hg4' := Hid.mkU (Hg4.out.later HJw7.out Hg4.out.lt)
        clear Hg4
        have Hg4 := Hg4'
        clear Hg4'
        have Hg5' := Hid.mkU (Hg5.out.later HJw7.out Hg5.out.lt)
        clear Hg5
        have Hg5 := Hg5'
        clear Hg5'
        have Hg6' := Hid.mkU (Hg6.out.later HJw7.out Hg6.out.lt)
        clear Hg6
        have Hg6 := Hg6'
        clear Hg6'
        have BB' := Hid.mkU (BB.out.trans (HJw7.out.mono BB.out.size))
        clear BB HJw7
        have BB := BB'
        clear BB'
        --@R4
        go_upto_region 4 with fail
        refine wp_region_calls (by kernel_rfl) (fun i => ([[], [0], [1], [], [3], [4], [], [], [6, 2], [7, 5]] : List (List Nat)).getD i []) (fun i => ([some (.pointer (some ⟨g3, 33, none⟩)), some (.int .i64 b.md), some (.bool (b.md == 0)), some (.pointer (some ⟨g7, 1, none⟩)), some (.int .i64 r.kd), some (.bool (r.kd == 5)), none, none, none, none] : List (Option Value)).getD i none) [⟨6, 8, 2, 4, #[.bool false], #[.bool (b.md == 0)], .bool (b.md == 0)⟩, ⟨7, 9, 5, 4, #[.bool false], #[.bool (r.kd == 5)], .bool (r.kd == 5)⟩] 2 w7.heap.size (Jq w7) _ w7 (by kernel_rfl) (by kernel_rfl) ?_ ⟨fun _ => False⟩ (⟨(Below.refl _ _).drew, fun _ h => h⟩) rfl (by decide) ?_ (fun L b w w' h hb => h.later hb) (fun L b w q cs h hq hb => h.put hq hb cs) (fun L b w q h hq => h.own hq) (hop_list ⟨?_, ?_, ?_, ?_, ?_, ?_, ?_, ?_, ?_, ?_, trivial⟩) ?_
        · intro p hp q hq e
          rcases List.mem_cons.1 hp with rfl | hp
          · rcases List.mem_cons.1 hq with rfl | hq
            · rfl
            · rw [List.mem_singleton.1 hq] at e; exact absurd (show (6 : Nat) = 7 from e) (by decide)
          · rw [List.mem_singleton.1 hp] at e ⊢
            rcases List.mem_cons.1 hq with rfl | hq
            · exact absurd (show (7 : Nat) = 6 from e) (by decide)
            · rw [List.mem_singleton.1 hq]
        · intro q hq
          rcases List.mem_cons.1 hq with rfl | hq
          · exact ⟨(by show 6 < _; decide), (by show 8 < _; decide)⟩
          · rw [List.mem_singleton.1 hq]
            exact ⟨(by show 7 < _; decide), (by show 9 < _; decide)⟩
        · refine opn_val (.pointer (some ⟨g3, 33, none⟩)) rfl rfl (by simp) rfl (by decide) (fun ac w9 L9 b9 ho hn hJ => ?_)
          have q0 : ac.eval (.tmp 3) = .pointer (some ⟨g3, 0, none⟩) := (ho 3 (by kernel_rfl)).trans rfl
          clear ho hn
          generalize ac.eval = ρ at *
          simp [execOp, q0, go_sem]
        · refine opn_val (.int .i64 b.md) rfl rfl (by simp) rfl (by decide) (fun ac w9 L9 b9 ho hn hJ => ?_)
          have q0 : ac.eval (.tmp 28) = .pointer (some ⟨g3, 33, none⟩) := hn 0 (by decide) _ rfl
          have hl : w9.cell? ⟨g3, 33, none⟩ = some (.int .i64 b.md) := ((hJ.row Hg3.out).cell 33).trans (cpc_at _ 33 (by omega))
          clear ho hn
          generalize ac.eval = ρ at *
          unfold execOp
          simp only [q0]
          go_simp
        · refine .call (.bool (b.md == 0)) rfl rfl (by simp) (fun ac w9 L9 ho hn hJ => ?_)
          have q0 : ac.eval (.tmp 29) = .int .i64 b.md := hn 1 (by decide) _ rfl
          have qc : ac.eval (.const (.int .i64 0)) = .int .i64 0 := rfl
          refine wpOp_plain rfl rfl ?_
          refine opn_pick (.bool (b.md == 0)) ?_ ⟨L9, hJ.turn, Fr.refl' _ _⟩
          clear ho hn
          generalize ac.eval = ρ at *
          simp [execOp, q0, qc, go_sem]
        · refine opn_val (.pointer (some ⟨g7, 1, none⟩)) rfl rfl (by simp) rfl (by decide) (fun ac w9 L9 b9 ho hn hJ => ?_)
          have q0 : ac.eval (.tmp 7) = .pointer (some ⟨g7, 0, none⟩) := (ho 7 (by kernel_rfl)).trans rfl
          clear ho hn
          generalize ac.eval = ρ at *
          simp [execOp, q0, go_sem]
        · refine opn_val (.int .i64 r.kd) rfl rfl (by simp) rfl (by decide) (fun ac w9 L9 b9 ho hn hJ => ?_)
          have q0 : ac.eval (.tmp 31) = .pointer (some ⟨g7, 1, none⟩) := hn 3 (by decide) _ rfl
          have hl : w9.cell? ⟨g7, 1, none⟩ = some (.int .i64 r.kd) := (hJ.row Hg7.out).cell 1
          clear ho hn
          generalize ac.eval = ρ at *
          unfold execOp
          simp only [q0]
          go_simp
        · refine opn_val (.bool (r.kd == 5)) rfl rfl (by simp) rfl (by decide) (fun ac w9 L9 b9 ho hn hJ => ?_)
          have q0 : ac.eval (.tmp 32) = .int .i64 r.kd := hn 4 (by decide) _ rfl
          have qc : ac.eval (.const (.int .i64 5)) = .int .i64 5 := rfl
          clear ho hn
          generalize ac.eval = ρ at *
          simp [execOp, q0, qc, go_sem]
        · refine opn_made ⟨6, 8, 2, 4, #[.bool false], #[.bool (b.md == 0)], .bool (b.md == 0)⟩ rfl rfl (by simp) (by simp) rfl (fun ac w9 => ?_)
          have hz := zero_bo w9
          generalize ac.eval = ρ
          simp [execOp, go_sem, hz, ptr]
        · refine opn_made ⟨7, 9, 5, 4, #[.bool false], #[.bool (r.kd == 5)], .bool (r.kd == 5)⟩ rfl rfl (by simp) (by simp) rfl (fun ac w9 => ?_)
          have hz := zero_bo w9
          generalize ac.eval = ρ
          simp [execOp, go_sem, hz, ptr]
        · exact opn_stored1 ⟨6, 8, 2, 4, #[.bool false], #[.bool (b.md == 0)], .bool (b.md == 0)⟩ (.tmp 9) (.tmp 30) (.bool false) (.bool (b.md == 0)) rfl rfl rfl (by simp) rfl rfl ⟨(by show (6 : Nat) ∈ [6, 2]; decide), (by show (2 : Nat) ∈ [6, 2]; decide)⟩ rfl (fun ac => rfl) (fun ac => rfl) rfl rfl rfl (fun w g hr => st_bo w g _ hr)
        · exact opn_stored1 ⟨7, 9, 5, 4, #[.bool false], #[.bool (r.kd == 5)], .bool (r.kd == 5)⟩ (.tmp 10) (.tmp 33) (.bool false) (.bool (r.kd == 5)) rfl rfl rfl (by simp) rfl rfl ⟨(by show (7 : Nat) ∈ [7, 5]; decide), (by show (5 : Nat) ∈ [7, 5]; decide)⟩ rfl (fun ac => rfl) (fun ac => rfl) rfl rfl rfl (fun w g hr => st_bo w g _ hr)
        · intro w8 L5 pg hJ hit hdj
          have i1 := (hit ⟨6, 8, 2, 4, #[.bool false], #[.bool (b.md == 0)], .bool (b.md == 0)⟩ (by simp)).1
          have i2 := (hit ⟨7, 9, 5, 4, #[.bool false], #[.bool (r.kd == 5)], .bool (r.kd == 5)⟩ (by simp)).1
          have j1 := (hit ⟨6, 8, 2, 4, #[.bool false], #[.bool (b.md == 0)], .bool (b.md == 0)⟩ (by simp)).2.2
          have j2 := (hit ⟨7, 9, 5, 4, #[.bool false], #[.bool (r.kd == 5)], .bool (r.kd == 5)⟩ (by simp)).2.2
          simp only [putAll, Act.put, List.getD_cons_zero, List.getD_cons_succ, Option.getD_some, Option.getD_none, List.setIfInBounds_toArray, List.set_cons_zero, List.set_cons_succ]
          simp only [Nat.reduceAdd, ptr]
          simp only at i1 i2 j1 j2
          generalize pg 6 = g9 at *
          generalize pg 7 = g10 at *
          have Hg9 : Hid (Row w8 g9 (#[.bool (b.md == 0)]) 4) := i1
          have Hg10 : Hid (Row w8 g10 (#[.bool (r.kd == 5)]) 4) := i2
          have HJw8 := Hid.mkU hJ.be
          clear i1 i2 j1 j2 hit hdj hJ pg L5
          have r0' := Hid.mkU (r0.out.later HJw8.out r0.out.lt)
          clear r0
          have r0 := r0'
          clear r0'
          have Hg3' := Hid.mkU (Hg3.out.later HJw8.out Hg3.out.lt)
          clear Hg3
          have Hg3 := Hg3'
          clear Hg3'
          have Hg4' := Hid.mkU (Hg4.out.later HJw8.out Hg4.out.lt)
          clear Hg4
          have Hg4 := Hg4'
          clear Hg4'
          have Hg5' := Hid.mkU (Hg5.out.later HJw8.out Hg5.out.lt)
          clear Hg5
          have Hg5 := Hg5'
          clear Hg5'
          have Hg6' := Hid.mkU (Hg6.out.later HJw8.out Hg6.out.lt)
          clear Hg6
          have Hg6 := Hg6'
          clear Hg6'
          have Hg7' := Hid.mkU (Hg7.out.later HJw8.out Hg7.out.lt)
          clear Hg7
          have Hg7 := Hg7'
          clear Hg7'
          have Hg8' := Hid.mkU (Hg8.out.later HJw8.out Hg8.out.lt)
          clear Hg8
          have Hg8 := Hg8'
          clear Hg8'
          have BB' := Hid.mkU (BB.out.trans (HJw8.out.mono BB.out.size))
          clear BB HJw8
          have BB := BB'
          clear BB'
          --@R5
          go_wp2
          go_ret
          exact ⟨w8.heap.size, w.heap.size, g3, g4, g5, g6, g7, g8, g9, g10, rfl, ⟨r0.out.old r0.out.lt _, Hg3.out.old Hg3.out.lt _, Hg4.out.old Hg4.out.lt _, Hg5.out.old Hg5.out.lt _, Hg6.out.old Hg6.out.lt _, Hg7.out.old Hg7.out.lt _, Hg8.out.old Hg8.out.lt _, Hg9.out.old Hg9.out.lt _, Hg10.out.old Hg10.out.lt _, Row.new _ _ _⟩, BB.out.alloc BB.out.size _⟩
      
end Go.Proofs.YtidfndgedopghaaGreatDoor
