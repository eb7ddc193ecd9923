/-
  From, State, New of the reference; From that refuses, New of the program.
-/
import Derived.Test.YtghiabdkgfhdbaaBsm
namespace Go.Proofs.Ytghiabdkgfhdbaa
set_option linter.unusedVariables false
open Go.ChangeShapes Go.WideShapes Go.ChangeAt Go.RowKit Go.Deep
/-- A bus of the reference that keeps S lies in block c. -/
structure RB (B c : Nat) (S : St) (vr vi vo : Value) (w : World) : Prop where
  h : w.heap[c]? = some (.cells (stc S vr vi vo) 56 (0, 0))
  s : Sv B S vr vi vo w
  l : B ≤ c
theorem RB.later {B c : Nat} {S : St} {vr vi vo : Value} {w w' : World} (h : RB B c S vr vi vo w) (hb : Below w.heap.size w w') : RB B c S vr vi vo w' :=
  ⟨by rw [hb.block c (Array.getElem?_eq_some_iff.1 h.h).1]; exact h.h, h.s.later hb, h.l⟩
theorem RB.cell {B c : Nat} {S : St} {vr vi vo : Value} {w : World} (h : RB B c S vr vi vo w) (j : Nat) : w.cell? ⟨c, j, none⟩ = (stc S vr vi vo)[j]? := cell_of_row w c j _ _ _ h.h
theorem box_cell {w w1 : World} {C : Array Value} {T : TypeId} (hb : Below (w.alloc (.cells C T)).heap.size (w.alloc (.cells C T)) w1) (j : Nat) : w1.cell? ⟨w.heap.size, j, none⟩ = C[j]? := by
  rw [hb.cell (by simp)]; exact cell_of_row _ _ _ _ _ _ (alloc_at w _)
theorem box_below {w w1 : World} {o : Obj} (hb : Below (w.alloc o).heap.size (w.alloc o) w1) : Below w.heap.size w w1 := ((Below.refl _ _).alloc (Nat.le_refl _) _).trans (hb.mono (by simp))
theorem from_bad (S : St) (ar ai ao : Option Addr) (cr ci co : Nat) (w : World) (hok : S.ok = false) :
    Calls Try.prog 26 #[.agg (stc S (.slice ar S.ram.length cr) (.slice ai S.inp.length ci) (.slice ao S.out.length co))] w fun e w' => e = .returned (.tuple #[.pointer none, .int .i64 31]) ∧ Below w.heap.size w w' := by
  have hC := canBe_c S ar ai ao cr ci co
  rw [hok] at hC
  unfold stc at hC ⊢
  go_enter Try.func26, Try.ntmps26
  go_wp2_with (go_at_call 50; refine (hC _).mono ?_; rintro e w1 ⟨rfl, hb1⟩)
  go_ret2
  exact ⟨rfl, box_below hb1⟩
theorem rfrom_bad (S : St) (ar ai ao : Option Addr) (cr ci co : Nat) (w : World) (hok : S.ok = false) :
    Calls Try.prog 49 #[.agg (stc S (.slice ar S.ram.length cr) (.slice ai S.inp.length ci) (.slice ao S.out.length co))] w fun e w' => e = .returned (.tuple #[.pointer none, .int .i64 31]) ∧ Below w.heap.size w w' := by
  have hC := rcanBe_c S ar ai ao cr ci co
  rw [hok] at hC
  unfold stc at hC ⊢
  go_enter Try.func49, Try.ntmps49
  go_wp2_with (go_at_call 9; refine (hC _).mono ?_; rintro e w1 ⟨rfl, hb1⟩)
  go_ret2
  exact ⟨rfl, box_below hb1⟩
set_option maxHeartbeats 2000000 in
theorem rfrom_c (S : St) (ar ai ao : Option Addr) (cr ci co : Nat) (w : World) (hok : S.ok = true) (hs : Bs S (.slice ar S.ram.length cr) (.slice ai S.inp.length ci) (.slice ao S.out.length co) w)
    (lr : S.ram.length ≤ 140737488355328) (li : S.inp.length ≤ 140737488355328) (lo : S.out.length ≤ 140737488355328) :
    Calls Try.prog 49 #[.agg (stc S (.slice ar S.ram.length cr) (.slice ai S.inp.length ci) (.slice ao S.out.length co))] w fun e w' => ∃ c ur ui uo, e = .returned (.tuple #[.pointer (some ⟨c, 0, none⟩), .int .i64 0]) ∧ RB w.heap.size c S ur ui uo w' ∧ Below w.heap.size w w' := by
  have hC := rcanBe_c S ar ai ao cr ci co
  rw [hok] at hC
  have HS : Hid (Bs S (.slice ar S.ram.length cr) (.slice ai S.inp.length ci) (.slice ao S.out.length co) w) := hs
  have HCP : Hid (∀ w1, Bs S (.slice ar S.ram.length cr) (.slice ai S.inp.length ci) (.slice ao S.out.length co) w1 → Calls Try.prog 21 #[.agg (stc S (.slice ar S.ram.length cr) (.slice ai S.inp.length ci) (.slice ao S.out.length co))] w1 fun e w' => ∃ ur ui uo, e = .returned (.agg (stc S ur ui uo)) ∧ Sv w1.heap.size S ur ui uo w' ∧ Below w1.heap.size w1 w') :=
    fun w1 h => copied_c S ar ai ao cr ci co w1 h.r h.i h.o lr li lo
  clear hs lr li lo
  unfold stc at hC HCP ⊢
  go_enter Try.func49, Try.ntmps49
  go_wp2_with (first | (go_at_call 9; refine (hC _).mono ?_; rintro e w1 ⟨rfl, hb1⟩; have p0 : w1.cell? ⟨w.heap.size, 0, none⟩ = some (.slice ar S.ram.length cr) := box_cell hb1 0; have p1 : w1.cell? ⟨w.heap.size, 1, none⟩ = some (.int .u32 S.msip) := box_cell hb1 1; have p2 : w1.cell? ⟨w.heap.size, 2, none⟩ = some (.int .u64 S.cmp) := box_cell hb1 2; have p3 : w1.cell? ⟨w.heap.size, 3, none⟩ = some (.int .u64 S.time) := box_cell hb1 3; have p4 : w1.cell? ⟨w.heap.size, 4, none⟩ = some (.bool S.ext) := box_cell hb1 4; have p5 : w1.cell? ⟨w.heap.size, 5, none⟩ = some (.bool S.soft) := box_cell hb1 5; have p6 : w1.cell? ⟨w.heap.size, 6, none⟩ = some (.int .u8 S.ier) := box_cell hb1 6; have p7 : w1.cell? ⟨w.heap.size, 7, none⟩ = some (.int .u8 S.lcr) := box_cell hb1 7; have p8 : w1.cell? ⟨w.heap.size, 8, none⟩ = some (.int .u8 S.mcr) := box_cell hb1 8; have p9 : w1.cell? ⟨w.heap.size, 9, none⟩ = some (.int .u8 S.scr) := box_cell hb1 9; have p10 : w1.cell? ⟨w.heap.size, 10, none⟩ = some (.bool S.ov) := box_cell hb1 10; have p11 : w1.cell? ⟨w.heap.size, 11, none⟩ = some (.slice ai S.inp.length ci) := box_cell hb1 11; have p12 : w1.cell? ⟨w.heap.size, 12, none⟩ = some (.slice ao S.out.length co) := box_cell hb1 12; have p13 : w1.cell? ⟨w.heap.size, 13, none⟩ = some (.int .i64 S.off) := box_cell hb1 13; have p14 : w1.cell? ⟨w.heap.size, 14, none⟩ = some (.int .i64 S.code) := box_cell hb1 14; have HB1 : Hid _ := box_below hb1; clear hb1) | (go_at_call 21; refine (HCP.out _ (HS.out.later HB1.out)).mono ?_; rintro e w2 ⟨ur, ui, uo, rfl, hsv, hb2⟩; have HSV : Hid _ := hsv; have HB2 : Hid _ := hb2; obtain ⟨x1, y1, z1, rfl⟩ := own_one hsv.r; obtain ⟨x2, y2, z2, rfl⟩ := own_one hsv.i; obtain ⟨x3, y3, z3, rfl⟩ := own_one hsv.o; clear hsv hb2))
  go_ret2
  have hb : Below w.heap.size w (w2.alloc (.cells (stc S (.slice x1 y1 z1) (.slice x2 y2 z2) (.slice x3 y3 z3)) 56)) := (HB1.out.trans (HB2.out.mono HB1.out.size)).alloc (Nat.le_trans HB1.out.size HB2.out.size) _
  exact ⟨w2.heap.size, .slice x1 y1 z1, .slice x2 y2 z2, .slice x3 y3 z3, rfl, ⟨alloc_at w2 _, ⟨own_le (HSV.out.r.alloc _) HB1.out.size, own_le (HSV.out.i.alloc _) HB1.out.size, own_le (HSV.out.o.alloc _) HB1.out.size, HSV.out.ri, HSV.out.ro, HSV.out.io⟩, Nat.le_trans HB1.out.size HB2.out.size⟩, hb⟩
set_option maxHeartbeats 2000000 in
theorem rstate_c {B c : Nat} {S : St} {vr vi vo : Value} (w : World) (h : RB B c S vr vi vo w) (lr : S.ram.length ≤ 140737488355328) (li : S.inp.length ≤ 140737488355328) (lo : S.out.length ≤ 140737488355328) :
    Calls Try.prog 44 #[.pointer (some ⟨c, 0, none⟩)] w fun e w' => ∃ ur ui uo, e = .returned (.agg (stc S ur ui uo)) ∧ Sv w.heap.size S ur ui uo w' ∧ Below w.heap.size w w' := by
  have hb0 := h.s.bs
  obtain ⟨ar, cr, er, _⟩ := hb0.r
  obtain ⟨ai, ci, ei, _⟩ := hb0.i
  obtain ⟨ao, co, eo, _⟩ := hb0.o
  subst er ei eo
  have HA : Hid (∀ o, RB B c S (.slice ar S.ram.length cr) (.slice ai S.inp.length ci) (.slice ao S.out.length co) (w.alloc o)) := fun o => h.later ((Below.refl _ _).alloc (Nat.le_refl _) o)
  have p0 : ∀ o, (w.alloc o).cell? ⟨c, 0, none⟩ = some (.slice ar S.ram.length cr) := fun o => (HA.out o).cell 0; have p1 : ∀ o, (w.alloc o).cell? ⟨c, 1, none⟩ = some (.int .u32 S.msip) := fun o => (HA.out o).cell 1; have p2 : ∀ o, (w.alloc o).cell? ⟨c, 2, none⟩ = some (.int .u64 S.cmp) := fun o => (HA.out o).cell 2; have p3 : ∀ o, (w.alloc o).cell? ⟨c, 3, none⟩ = some (.int .u64 S.time) := fun o => (HA.out o).cell 3; have p4 : ∀ o, (w.alloc o).cell? ⟨c, 4, none⟩ = some (.bool S.ext) := fun o => (HA.out o).cell 4; have p5 : ∀ o, (w.alloc o).cell? ⟨c, 5, none⟩ = some (.bool S.soft) := fun o => (HA.out o).cell 5; have p6 : ∀ o, (w.alloc o).cell? ⟨c, 6, none⟩ = some (.int .u8 S.ier) := fun o => (HA.out o).cell 6; have p7 : ∀ o, (w.alloc o).cell? ⟨c, 7, none⟩ = some (.int .u8 S.lcr) := fun o => (HA.out o).cell 7; have p8 : ∀ o, (w.alloc o).cell? ⟨c, 8, none⟩ = some (.int .u8 S.mcr) := fun o => (HA.out o).cell 8; have p9 : ∀ o, (w.alloc o).cell? ⟨c, 9, none⟩ = some (.int .u8 S.scr) := fun o => (HA.out o).cell 9; have p10 : ∀ o, (w.alloc o).cell? ⟨c, 10, none⟩ = some (.bool S.ov) := fun o => (HA.out o).cell 10; have p11 : ∀ o, (w.alloc o).cell? ⟨c, 11, none⟩ = some (.slice ai S.inp.length ci) := fun o => (HA.out o).cell 11; have p12 : ∀ o, (w.alloc o).cell? ⟨c, 12, none⟩ = some (.slice ao S.out.length co) := fun o => (HA.out o).cell 12; have p13 : ∀ o, (w.alloc o).cell? ⟨c, 13, none⟩ = some (.int .i64 S.off) := fun o => (HA.out o).cell 13; have p14 : ∀ o, (w.alloc o).cell? ⟨c, 14, none⟩ = some (.int .i64 S.code) := fun o => (HA.out o).cell 14
  have HCP : Hid (∀ o, Calls Try.prog 21 #[.agg (stc S (.slice ar S.ram.length cr) (.slice ai S.inp.length ci) (.slice ao S.out.length co))] (w.alloc o) fun e w' => ∃ ur ui uo, e = .returned (.agg (stc S ur ui uo)) ∧ Sv (w.alloc o).heap.size S ur ui uo w' ∧ Below (w.alloc o).heap.size (w.alloc o) w') :=
    fun o => copied_c S ar ai ao cr ci co (w.alloc o) (HA.out o).s.bs.r (HA.out o).s.bs.i (HA.out o).s.bs.o lr li lo
  clear h hb0 lr li lo
  unfold stc at HCP ⊢
  go_enter Try.func44, Try.ntmps44
  go_wp2_with (first | (go_at_call 21; refine (HCP.out _).mono ?_; rintro e w2 ⟨ur, ui, uo, rfl, hsv, hb2⟩; have HSV : Hid _ := hsv; have HB2 : Hid _ := hb2; obtain ⟨a1, b1, c1, rfl⟩ := own_one hsv.r; obtain ⟨a2, b2, c2, rfl⟩ := own_one hsv.i; obtain ⟨a3, b3, c3, rfl⟩ := own_one hsv.o; have HROW : Hid _ := (hb2.block w.heap.size (by simp)).trans (alloc_at w _); clear hsv hb2) | (refine wpList_store_row (by rfl) 26 _ _ (by rfl) w.heap.size #[.slice a1 b1 c1, .int .u32 S.msip, .int .u64 S.cmp, .int .u64 S.time, .bool S.ext, .bool S.soft, .int .u8 S.ier, .int .u8 S.lcr, .int .u8 S.mcr, .int .u8 S.scr, .bool S.ov, .slice a2 b2 c2, .slice a3 b3 c3, .int .i64 S.off, .int .i64 S.code] (by rfl) (by rfl) 26 _ HROW.out stSize (by rfl) (stOne S) ?_))
  have hb : Below w.heap.size w w2 := box_below HB2.out
  have e : Exc (· = w.heap.size) w2 (w2.setRow w.heap.size (stc S (.slice a1 b1 c1) (.slice a2 b2 c2) (.slice a3 b3 c3))) := ⟨rfl, rfl, rfl, by simp [World.setRow], fun k hk hs => setRow_other w2 _ _ k hs⟩
  refine bodyPost_ret (v := .agg (stc S (.slice a1 b1 c1) (.slice a2 b2 c2) (.slice a3 b3 c3))) (results_cell_row Try.results44 _ _ w.heap.size 26 _ (0, 0) _ (by rfl) (setRow_heap w2 w.heap.size _ _ _ _ HROW.out) Try.underlying26 (by rfl) stSize) rfl ?_
  have fin : ∀ {v : Value} {l : List Int}, w2.ownsRow (w.heap.size + 1) 5 1 v l.length (bv l) → (w2.setRow w.heap.size (stc S (.slice a1 b1 c1) (.slice a2 b2 c2) (.slice a3 b3 c3))).ownsRow w.heap.size 5 1 v l.length (bv l) := fun {v l} h => by
    refine own_le (own_exc h e (fun k hk e => ?_)) (show w.heap.size ≤ w.heap.size + 1 by omega)
    have h1 := (h.lt k hk).1
    omega
  exact ⟨_, _, _, rfl, ⟨fin (own_le HSV.out.r (by simp)), fin (own_le HSV.out.i (by simp)), fin (own_le HSV.out.o (by simp)), HSV.out.ri, HSV.out.ro, HSV.out.io⟩, hb.trans (e.below hb.size (fun k hk => by rw [hk]; exact Nat.le_refl _))⟩
end Go.Proofs.Ytghiabdkgfhdbaa
