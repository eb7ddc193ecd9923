/-
  Uq.
-/
import Derived.Test.YtidfndgedopghaaGreatDoorM28
namespace Go.Proofs.YtidfndgedopghaaGreatDoor
set_option linter.unusedVariables false
set_option maxRecDepth 100000
set_option maxHeartbeats 4000000
open Go.ChangeShapes Go.WideShapes Go.ChangeAt Go.RowKit Go.Deep
def kbF : Cp := { cst with c := fun j => if j = 0 then 31#8 else 0#8, a := fun j => if j = 0 then 18014398509481983#64 else 0#64 }
def kaP : Cp := { cst with pc := 2147483652#64, x := upd cst.x 5 7#64, s := upd (upd cst.s 10 1#64) 11 1#64 }
def kaF : Cp := { kaP with c := kbF.c, a := kbF.a }
def kaX : Cp := { kaF with x := upd kaF.x 6 1#64 }
def ssX : St := { sst with ram := [0, 0, 0, 1, 0, 0, 0, 0] }
def b8X : Array Value := #[.int .u8 0, .int .u8 0, .int .u8 0, .int .u8 1, .int .u8 0, .int .u8 0, .int .u8 0, .int .u8 0]
def rrF : Rw := ⟨1, 1, 0, 2147483648#64, 19, 4, 0#64, 0#64, 5, 7#64, 0, 0#64, 0, 0#64, 2147483652#64, 0⟩
def r2F : Rw := ⟨2, 0, 0, 0#64, 0, 0, 0#64, 0#64, 0, 0#64, 0, 0#64, 0, 0#64, 0#64, 0⟩
theorem f_b (g : Nat) : ((whc cst sst (.slice (some ⟨g, 0, none⟩) 8 8) (.slice none 0 0) (.slice none 0 0)).setIfInBounds 47 (.int .u8 31)).setIfInBounds 63 (.int .u64 18014398509481983) = whc kbF sst (.slice (some ⟨g, 0, none⟩) 8 8) (.slice none 0 0) (.slice none 0 0) := by kernel_rfl
theorem f_a (g : Nat) : ((((whc cst sst (.slice (some ⟨g, 0, none⟩) 8 8) (.slice none 0 0) (.slice none 0 0)).setIfInBounds 0 (.int .u64 2147483652)).setIfInBounds 45 (.int .u64 1)).setIfInBounds 46 (.int .u64 1)).setIfInBounds 6 (.int .u64 7) = whc kaP sst (.slice (some ⟨g, 0, none⟩) 8 8) (.slice none 0 0) (.slice none 0 0) := by kernel_rfl
theorem f_p (g : Nat) : layC (whc kaP sst (.slice (some ⟨g, 0, none⟩) 8 8) (.slice none 0 0) (.slice none 0 0)) 47 (pc kbF.c kbF.a).toList = whc kaF sst (.slice (some ⟨g, 0, none⟩) 8 8) (.slice none 0 0) (.slice none 0 0) := by kernel_rfl
theorem f_x (g : Nat) : (whc kaF sst (.slice (some ⟨g, 0, none⟩) 8 8) (.slice none 0 0) (.slice none 0 0)).setIfInBounds 7 (.int .u64 1) = whc kaX sst (.slice (some ⟨g, 0, none⟩) 8 8) (.slice none 0 0) (.slice none 0 0) := by kernel_rfl
theorem f_y (g : Nat) : (whc kaX sst (.slice (some ⟨g, 0, none⟩) 8 8) (.slice none 0 0) (.slice none 0 0)).setIfInBounds 7 (.int .u64 0) = whc kaF sst (.slice (some ⟨g, 0, none⟩) 8 8) (.slice none 0 0) (.slice none 0 0) := by kernel_rfl
theorem f_r : b8.setIfInBounds 3 (.int .u8 1) = b8X := rfl
theorem f_ss (g : Nat) (k : Cp) : whc k sst (.slice (some ⟨g, 0, none⟩) 8 8) (.slice none 0 0) (.slice none 0 0) = whc k ssX (.slice (some ⟨g, 0, none⟩) 8 8) (.slice none 0 0) (.slice none 0 0) := rfl
theorem f_w : Tryz.prog.built 50 [] = some (woc false false false (.slice none 0 0)) := by kernel_rfl
theorem f_rr : Tryz.prog.built 52 [(0, .int .i64 1), (1, .int .i64 1), (3, .int .u64 2147483648), (14, .int .u64 2147483652), (4, .int .u32 19), (5, .int .i64 4), (8, .int .i64 5), (9, .int .u64 7)] = some (rwc rrF) := by kernel_rfl
theorem f_1 : stV kbF sst kaF sst false false false rrF = 0 := by decide +kernel
theorem f_2 : agV kaF sst kaF sst = true := by decide +kernel
theorem f_3 : agV kaF sst kbF sst = false := by decide +kernel
theorem f_4 : stV kbF sst kaX sst false false false rrF = 4 := by decide +kernel
theorem f_5 : stV kbF sst kaF ssX false false false rrF = 6 := by decide +kernel
theorem f_6 : trV (kpB [r2F]) 1 (enV [r2F] cz) = (1, 0) := by decide +kernel
theorem byt8 {W : World} {g : Nat} {l : List Int} {cs : Array Value} (h : Row W g cs 5) (hl : l.length = 8) (hc : ∀ j, j < 8 → cs[j]? = some (.int .u8 (l.getD j 0))) : Byt W (.slice (some ⟨g, 0, none⟩) 8 8) l :=
  ⟨some ⟨g, 0, none⟩, 8, by rw [hl], by omega, (fun e => by cases e), fun _ => ⟨g, 0, rfl, h.lt, fun j hj => by rw [Nat.zero_add, h.cell]; exact hc j (by omega)⟩⟩
theorem byt0 (W : World) : Byt W (.slice none 0 0) [] := ⟨none, 0, rfl, Nat.le_refl _, fun _ => rfl, fun h => absurd rfl h⟩
theorem case8 {j : Nat} (h : j < 8) : j = 0 ∨ j = 1 ∨ j = 2 ∨ j = 3 ∨ j = 4 ∨ j = 5 ∨ j = 6 ∨ j = 7 := by omega
theorem bs_s {W : World} {g : Nat} (h : Row W g b8 5) : Bs sst (.slice (some ⟨g, 0, none⟩) 8 8) (.slice none 0 0) (.slice none 0 0) W :=
  ⟨byt8 h rfl (fun j hj => by rcases case8 hj with rfl | rfl | rfl | rfl | rfl | rfl | rfl | rfl <;> rfl), byt0 W, byt0 W⟩
theorem bs_x {W : World} {g : Nat} (h : Row W g b8X 5) : Bs ssX (.slice (some ⟨g, 0, none⟩) 8 8) (.slice none 0 0) (.slice none 0 0) W :=
  ⟨byt8 h rfl (fun j hj => by rcases case8 hj with rfl | rfl | rfl | rfl | rfl | rfl | rfl | rfl <;> rfl), byt0 W, byt0 W⟩
/-- Memory while first() runs: the two wholes, the row, the bytes. -/
structure Ff (w : World) (kb ka : Cp) (cn : Array Value) (gb ga g8 g9 : Nat) (W : World) : Prop where
  be : Below w.heap.size w W
  b : Row W gb (whc kb sst (.slice (some ⟨g8, 0, none⟩) 8 8) (.slice none 0 0) (.slice none 0 0)) 46
  a : Row W ga (whc ka sst (.slice (some ⟨g9, 0, none⟩) 8 8) (.slice none 0 0) (.slice none 0 0)) 46
  m : Row W g8 b8 5
  n : Row W g9 cn 5
  ob : w.heap.size ≤ gb
  oa : w.heap.size ≤ ga
  on : w.heap.size ≤ g9
  ab : ga ≠ gb
  mn : g8 ≠ g9
theorem Row.ne_size {W : World} {g g' : Nat} {c c' : Array Value} {t t' : TypeId} (h : Row W g c t) (h' : Row W g' c' t') (hs : c.size ≠ c'.size) : g ≠ g' := fun e => by
  subst e
  have h1 : W.heap[g]? = some (.cells c t (0, 0)) := h
  have h2 : W.heap[g]? = some (.cells c' t' (0, 0)) := h'
  rw [h1] at h2
  injection h2 with h2
  injection h2 with h3 h4 h5
  exact hs (by rw [h3])
theorem Ff.later {w : World} {kb ka : Cp} {cn : Array Value} {gb ga g8 g9 : Nat} {W W' : World} (h : Ff w kb ka cn gb ga g8 g9 W) (hb : Below W.heap.size W W') : Ff w kb ka cn gb ga g8 g9 W' :=
  ⟨h.be.trans (hb.mono h.be.size), h.b.later hb h.b.lt, h.a.later hb h.a.lt, h.m.later hb h.m.lt, h.n.later hb h.n.lt, h.ob, h.oa, h.on, h.ab, h.mn⟩
/-- A cell of the first whole written. -/
theorem Ff.setb {w : World} {kb ka : Cp} {cn : Array Value} {gb ga g8 g9 : Nat} {W : World} (h : Ff w kb ka cn gb ga g8 g9 W) (hn : cn.size = 8) (kb' : Cp) {W' : World} (hr : Row W' gb (whc kb' sst (.slice (some ⟨g8, 0, none⟩) 8 8) (.slice none 0 0) (.slice none 0 0)) 46) (hx : ∀ g, g ≠ gb → W'.heap[g]? = W.heap[g]?) (hb : Below w.heap.size w W') : Ff w kb' ka cn gb ga g8 g9 W' := by
  have e1 := Row.ne_size h.m h.b (by rw [whc_size]; decide)
  have e2 := Row.ne_size h.n h.b (by rw [whc_size, hn]; decide)
  exact ⟨hb, hr, (hx _ h.ab).trans h.a, (hx _ e1).trans h.m, (hx _ e2).trans h.n, h.ob, h.oa, h.on, h.ab, h.mn⟩
theorem Ff.seta {w : World} {kb ka : Cp} {cn : Array Value} {gb ga g8 g9 : Nat} {W : World} (h : Ff w kb ka cn gb ga g8 g9 W) (hn : cn.size = 8) (ka' : Cp) {W' : World} (hr : Row W' ga (whc ka' sst (.slice (some ⟨g9, 0, none⟩) 8 8) (.slice none 0 0) (.slice none 0 0)) 46) (hx : ∀ g, g ≠ ga → W'.heap[g]? = W.heap[g]?) (hb : Below w.heap.size w W') : Ff w kb ka' cn gb ga g8 g9 W' := by
  have e1 := Row.ne_size h.m h.a (by rw [whc_size]; decide)
  have e2 := Row.ne_size h.n h.a (by rw [whc_size, hn]; decide)
  exact ⟨hb, (hx _ (Ne.symm h.ab)).trans h.b, hr, (hx _ e1).trans h.m, (hx _ e2).trans h.n, h.ob, h.oa, h.on, h.ab, h.mn⟩
theorem Ff.setn {w : World} {kb ka : Cp} {gb ga g8 g9 : Nat} {W : World} (h : Ff w kb ka b8 gb ga g8 g9 W) (v : Value) (hv : v = .int .u8 1 := by rfl) : Ff w kb ka b8X gb ga g8 g9 (W.setCell ⟨g9, 3, none⟩ v) := by
  subst hv
  have e1 := Row.ne_size h.b h.n (by rw [whc_size]; decide)
  have e2 := Row.ne_size h.a h.n (by rw [whc_size]; decide)
  exact ⟨below_put h.be h.on _, h.b.other e1 _, h.a.other e2 _, h.m.other h.mn _, row_cast (h.n.put (i := 3) _) f_r, h.ob, h.oa, h.on, h.ab, h.mn⟩
theorem rws1 {W : World} {g : Nat} (h : Row W g (rwc r2F) 52) : Rws W (.slice (some ⟨g, 0, none⟩) 1 1) [r2F] :=
  ⟨some ⟨g, 0, none⟩, 1, rfl, Nat.le_refl _, (fun e => by cases e), fun _ => ⟨g, 0, rfl, h.lt, fun j hj i v hv => by
    have e : j = 0 := by have : j < 1 := hj; omega
    subst e
    rw [h.cell, Nat.zero_mul, Nat.zero_add]
    first | exact hv | (rw [Nat.zero_add]; exact hv)⟩⟩
theorem quiet_build {P : Program} {W : World} {o : Oper} {a : Act} {K : Act → Prop} (t : TypeId) (parts : Array (Nat × Operand)) (ho : o.op = .build t parts) (cells : Array Value) (hc : P.built t (parts.map fun (i, x) => (i, a.eval x)).toList = some cells) (hk : K (a.put o.dst (.agg cells))) : o.quiet P a (fun w' => ∃ x : Later W, w' = x.1) K := by
  refine ⟨_, fun w hw => ?_, hk⟩
  unfold Oper.quietAt execOp
  simp only [ho, Sem.run_bind, run_build w t _ cells hc, Result.andThen_ok]
  first | rfl | exact ⟨rfl, hw⟩ | trivial
theorem set_old (W : World) (g o : Nat) (v : Value) (k : Nat) (h : k ≠ g) : (W.setCell ⟨g, o, none⟩ v).heap[k]? = W.heap[k]? := heap_setCell_other W ⟨g, o, none⟩ k v h
theorem sets_old (W : World) (g o : Nat) (l : List Value) (k : Nat) (h : k ≠ g) : (W.setCells g o l).heap[k]? = W.heap[k]? := by
  have q : ∀ (l : List Value) (o : Nat) (W : World), (W.setCells g o l).heap[k]? = W.heap[k]? := by
    intro l
    induction l with
    | nil => intro o W; rfl
    | cons v l ih => intro o W; exact (ih (o + 1) _).trans (set_old W g o v k h)
  exact q l o W
set_option maxHeartbeats 8000000 in
theorem first_c (w : World) (hT : Tb w) : Calls Tryz.prog 10 #[] w fun e w' => e = .returned (.bool true) ∧ Below w.heap.size w w' := by
  have hz := zero_wh
  have HT := Hid.mkU hT
  clear hT
  go_enter Tryz.func10, Tryz.ntmps10
  go_upto_region 2 with (first | (go_at_call 21; refine (still_c _).mono ?_; rintro e w1 ⟨g8, rfl, q1, q2, q3⟩; have HM := Hid.mkU q1; have HG := Hid.mkU q2; have HB1 := Hid.mkU q3; clear q1 q2 q3) | (refine wpList_store_new (by rfl) 46 _ _ (by rfl) (by rfl) whz (whc cst sst (.slice (some ⟨g8, 0, none⟩) 8 8) (.slice none 0 0) (.slice none 0 0)) (by rfl) (by rfl) (info_whU _ _ _ _ _) (whz_size _ _ _ _ _) (whc_ones _ _ _ _ _ _ _ _ _ _ _) ?_))
  --@R2
  refine on_W (motive := fun W => Code.wp _ _ _ _ W) (Q := fun W => Row W w1.heap.size (whc cst sst (.slice (some ⟨g8, 0, none⟩) 8 8) (.slice none 0 0) (.slice none 0 0)) 46 ∧ Row W g8 b8 5 ∧ Below w.heap.size w W) ⟨Row.new _ _ _, HM.out.old HM.out.lt _, HB1.out.trans ((below_al _ _).mono HB1.out.size)⟩ ?_
  have ob : Hid (w.heap.size ≤ w1.heap.size) := HB1.out.size
  generalize w1.heap.size = gb at *
  clear HM HB1
  rintro W1 ⟨q1, q2, q3⟩
  have R1 := Hid.mkU q1
  have R2 := Hid.mkU q2
  have B1 := Hid.mkU q3
  clear q1 q2 q3
  go_upto_region 3 with (first | (go_at_call 21; refine (still_c _).mono ?_; rintro e w2 ⟨g9, rfl, q1, q2, q3⟩; have HM := Hid.mkU q1; have HG9 := Hid.mkU q2; have HB1 := Hid.mkU q3; clear q1 q2 q3) | (refine wpList_store_new (by rfl) 46 _ _ (by rfl) (by rfl) whz (whc cst sst (.slice (some ⟨g9, 0, none⟩) 8 8) (.slice none 0 0) (.slice none 0 0)) (by rfl) (by rfl) (info_whU _ _ _ _ _) (whz_size _ _ _ _ _) (whc_ones _ _ _ _ _ _ _ _ _ _ _) ?_))
  --@R3
  refine on_W (motive := fun W => Code.wp _ _ _ _ W) (Q := fun W => Ff w cst cst b8 gb w2.heap.size g8 g9 W) ⟨B1.out.trans ((HB1.out.trans ((below_al _ _).mono HB1.out.size)).mono B1.out.size), (R1.out.later HB1.out R1.out.lt).old (R1.out.later HB1.out R1.out.lt).lt _, Row.new _ _ _, (R2.out.later HB1.out R2.out.lt).old (R2.out.later HB1.out R2.out.lt).lt _, HM.out.old HM.out.lt _, ob.out, Nat.le_trans B1.out.size HB1.out.size, Nat.le_trans B1.out.size HG9.out, by have h1 := (R1.out.later HB1.out R1.out.lt).lt; omega, by have h1 := R2.out.lt; have h2 := HG9.out; omega⟩ ?_
  generalize w2.heap.size = ga at *
  clear R1 R2 B1 HM HB1 HG HG9 ob W1 hz
  rintro W2 q
  have HF := Hid.mkU q
  clear q
  have c0 : W2.cell? ⟨ga, 0, none⟩ = some (.int .u64 (n64 cst.pc)) := (HF.out.a.cell 0).trans (whc_c _ _ _ _ _ 0 _ (cpc_at _ 0 (by omega)))
  have c1 : W2.cell? ⟨ga, 45, none⟩ = some (.int .u64 (n64 (cst.s 10))) := (HF.out.a.cell 45).trans (whc_c _ _ _ _ _ 45 _ (cpc_at _ 45 (by omega)))
  have c2 : W2.cell? ⟨ga, 46, none⟩ = some (.int .u64 (n64 (cst.s 11))) := (HF.out.a.cell 46).trans (whc_c _ _ _ _ _ 46 _ (cpc_at _ 46 (by omega)))
  have c3 : W2.cell? ⟨ga, 6, none⟩ = some (.int .u64 (n64 (cst.x 5))) := (HF.out.a.cell 6).trans (whc_c _ _ _ _ _ 6 _ (cpc_at _ 6 (by omega)))
  have f0 := HF.out.a.froz 0
  have f1 := HF.out.a.froz 45
  have f2 := HF.out.a.froz 46
  have f3 := HF.out.a.froz 6
  go_upto_region 7 with fail
  --@R7
  refine on_W (motive := fun W => Code.wp _ _ _ _ W) (Q := fun W => Ff w cst kaP b8 gb ga g8 g9 W) (HF.out.seta rfl kaP (row_cast ((((HF.out.a.put (i := 0) (.int .u64 2147483652)).put (i := 45) (.int .u64 1)).put (i := 46) (.int .u64 1)).put (i := 6) (.int .u64 7)) (f_a g9)) (fun g hg => (((set_old _ _ _ _ _ hg).trans (set_old _ _ _ _ _ hg)).trans (set_old _ _ _ _ _ hg)).trans (set_old _ _ _ _ _ hg)) (below_put (below_put (below_put (below_put HF.out.be HF.out.oa _) HF.out.oa _) HF.out.oa _) HF.out.oa _)) ?_
  clear c0 c1 c2 c3 f0 f1 f2 f3 HF
  rintro W3 q
  have HF := Hid.mkU q
  clear q W2
  have c0 : W3.cell? ⟨gb, 47, none⟩ = some (.int .u8 (n8 (cst.c 0))) := (HF.out.b.cell 47).trans (whc_c _ _ _ _ _ 47 _ (cpc_at _ 47 (by omega)))
  have c1 : W3.cell? ⟨gb, 63, none⟩ = some (.int .u64 (n64 (cst.a 0))) := (HF.out.b.cell 63).trans (whc_c _ _ _ _ _ 63 _ (cpc_at _ 63 (by omega)))
  have f0 := HF.out.b.froz 47
  have f1 := HF.out.b.froz 63
  go_upto_region 9 with fail
  --@R9
  refine on_W (motive := fun W => Code.wp _ _ _ _ W) (Q := fun W => Ff w kbF kaP b8 gb ga g8 g9 W) (HF.out.setb rfl kbF (row_cast ((HF.out.b.put (i := 47) (.int .u8 31)).put (i := 63) (.int .u64 18014398509481983)) (f_b g8)) (fun g hg => (set_old _ _ _ _ _ hg).trans (set_old _ _ _ _ _ hg)) (below_put (below_put HF.out.be HF.out.ob _) HF.out.ob _)) ?_
  clear c0 c1 f0 f1 HF
  rintro W4 q
  have HF := Hid.mkU q
  clear q W3
  have AT : At W4 gb 0 kbF := fun j hj => (HF.out.b.cell (0 + j)).trans (whc_c _ _ _ _ _ j _ (cpc_at _ j hj))
  have AP : Hid (∀ j v, (pc kbF.c kbF.a)[j]? = some v → W4.cell? ⟨gb, 47 + j, none⟩ = some v) := fun j v hv => by have q := AT.pmp j v hv; rwa [Nat.zero_add] at q
  have TH : Hid (W4.there ga 47 (pc kbF.c kbF.a).size) := HF.out.a.there (by rw [pc_size, whc_size]; omega)
  clear AT
  go_upto_region 10 with (first | (refine wpList_load_agg (by rfl) 28 _ (by rfl) gb 47 (by rfl) (pc kbF.c kbF.a) _ AP.out Tryz.underlying28 (by rfl) (info_pmpU _ _) ?_) | (refine wpList_store_part (by rfl) 28 _ _ (by rfl) (by rfl) ga 47 (pc kbF.c kbF.a) (by rfl) (by rfl) TH.out (info_pmpU _ _) (pc_ones _ _) ?_))
  --@R10
  refine on_W (motive := fun W => Code.wp _ _ _ _ W) (Q := fun W => Ff w kbF kaF b8 gb ga g8 g9 W) (HF.out.seta rfl kaF (row_cast (HF.out.a.lay (pc kbF.c kbF.a).toList 47) (f_p g9)) (fun g hg => sets_old _ _ _ _ _ hg) (below_lay HF.out.oa _ _ HF.out.be)) ?_
  clear AP TH HF
  rintro W5 q
  have HF := Hid.mkU q
  clear q W4
  have hzr := zero_rw
  go_upto_region 11 with (first | (refine wpList_build_tab (by rfl) 52 _ (by rfl) (rwc rrF) (by kernel_rfl) ?_) | (refine wpList_store_new (by rfl) 52 _ _ (by rfl) (by rfl) (rwc rz) (rwc rrF) (by rfl) (by rfl) (info_rw _) (by rfl) (rwc_ones _) ?_))
  --@R11
  refine on_W (motive := fun W => Code.wp _ _ _ _ W) (Q := fun W => Ff w kbF kaF b8 gb ga g8 g9 W ∧ Row W W5.heap.size (rwc rrF) 52) ⟨HF.out.later (below_al _ _), Row.new _ _ _⟩ ?_
  have og : Hid (w.heap.size ≤ W5.heap.size) := HF.out.be.size
  have ga5 : Hid (W5.heap.size ≠ ga) := by have := HF.out.a.lt; show _ ≠ _; omega
  generalize W5.heap.size = gr at *
  clear HF hzr
  rintro W6 ⟨q, q2⟩
  have HF := Hid.mkU q
  have HR := Hid.mkU q2
  clear q q2 W5
  have T2 : ∀ x : Later W6, Two18 sst sst (.slice (some ⟨g8, 0, none⟩) 8 8) (.slice none 0 0) (.slice none 0 0) (.slice (some ⟨g9, 0, none⟩) 8 8) (.slice none 0 0) (.slice none 0 0) x.1 := fun x => ⟨bs_s (lrow HF.out.m x), bs_s (lrow HF.out.n x), (HT.out.next HF.out.be).next x.2, by decide, by decide, fun y hy => by cases hy⟩
  have HS : Hid (∀ x : Later W6, Calls Tryz.prog 15 #[.agg (whc kbF sst (.slice (some ⟨g8, 0, none⟩) 8 8) (.slice none 0 0) (.slice none 0 0)), .agg (whc kaF sst (.slice (some ⟨g9, 0, none⟩) 8 8) (.slice none 0 0) (.slice none 0 0)), .agg (woc false false false (.slice none 0 0)), .agg (rwc rrF)] x.1 fun e w' => e = .returned (.int .i64 0) ∧ Below x.1.heap.size x.1 w') := fun x => by rw [← f_1]; exact step_c kbF sst _ _ _ kaF sst _ _ _ false false false _ rrF x.1 (T2 x) rfl
  have HA1 : Hid (∀ x : Later W6, Calls Tryz.prog 12 #[.agg (whc kaF sst (.slice (some ⟨g9, 0, none⟩) 8 8) (.slice none 0 0) (.slice none 0 0)), .agg (whc kaF sst (.slice (some ⟨g9, 0, none⟩) 8 8) (.slice none 0 0) (.slice none 0 0))] x.1 fun e w' => e = .returned (.bool true) ∧ Below x.1.heap.size x.1 w') := fun x => by rw [← f_2]; exact agree_c kaF sst _ _ _ kaF sst _ _ _ x.1 (T2 x).hA (T2 x).hA (T2 x).hT (by decide)
  have HA2 : Hid (∀ x : Later W6, Calls Tryz.prog 12 #[.agg (whc kaF sst (.slice (some ⟨g9, 0, none⟩) 8 8) (.slice none 0 0) (.slice none 0 0)), .agg (whc kbF sst (.slice (some ⟨g8, 0, none⟩) 8 8) (.slice none 0 0) (.slice none 0 0))] x.1 fun e w' => e = .returned (.bool false) ∧ Below x.1.heap.size x.1 w') := fun x => by rw [← f_3]; exact agree_c kaF sst _ _ _ kbF sst _ _ _ x.1 (T2 x).hA (T2 x).hB (T2 x).hT (by decide)
  have hne := later_nonempty W6
  clear T2
  refine wp_region_plain (x0 := Later.start W6) ?_
  (first | (go_big_quiet_want; refine quiet_load_agg 46 _ (by rfl) gb 0 (by rfl) (whc kbF sst (.slice (some ⟨g8, 0, none⟩) 8 8) (.slice none 0 0) (.slice none 0 0)) _ HF.out.b.lt (lrow_cells HF.out.b) Tryz.underlying46 (by rfl) (info_whU _ _ _ _ _) ?_; simp only [Act.put, List.setIfInBounds_toArray, List.set_cons_succ, List.set_cons_zero]; go_big_quiet_on) | (go_big_quiet_want; refine quiet_load_agg 46 _ (by rfl) ga 0 (by rfl) (whc kaF sst (.slice (some ⟨g9, 0, none⟩) 8 8) (.slice none 0 0) (.slice none 0 0)) _ HF.out.a.lt (lrow_cells HF.out.a) Tryz.underlying46 (by rfl) (info_whU _ _ _ _ _) ?_; simp only [Act.put, List.setIfInBounds_toArray, List.set_cons_succ, List.set_cons_zero]; go_big_quiet_on) | (go_big_quiet_want; refine quiet_load_agg 52 _ (by rfl) gr 0 (by rfl) (rwc rrF) _ HR.out.lt (lrow_cells HR.out) Tryz.underlying52 (by rfl) (info_rw _) ?_; simp only [Act.put, List.setIfInBounds_toArray, List.set_cons_succ, List.set_cons_zero]; go_big_quiet_on))
  (first | (go_big_quiet_want; refine quiet_load_agg 46 _ (by rfl) gb 0 (by rfl) (whc kbF sst (.slice (some ⟨g8, 0, none⟩) 8 8) (.slice none 0 0) (.slice none 0 0)) _ HF.out.b.lt (lrow_cells HF.out.b) Tryz.underlying46 (by rfl) (info_whU _ _ _ _ _) ?_; simp only [Act.put, List.setIfInBounds_toArray, List.set_cons_succ, List.set_cons_zero]; go_big_quiet_on) | (go_big_quiet_want; refine quiet_load_agg 46 _ (by rfl) ga 0 (by rfl) (whc kaF sst (.slice (some ⟨g9, 0, none⟩) 8 8) (.slice none 0 0) (.slice none 0 0)) _ HF.out.a.lt (lrow_cells HF.out.a) Tryz.underlying46 (by rfl) (info_whU _ _ _ _ _) ?_; simp only [Act.put, List.setIfInBounds_toArray, List.set_cons_succ, List.set_cons_zero]; go_big_quiet_on) | (go_big_quiet_want; refine quiet_load_agg 52 _ (by rfl) gr 0 (by rfl) (rwc rrF) _ HR.out.lt (lrow_cells HR.out) Tryz.underlying52 (by rfl) (info_rw _) ?_; simp only [Act.put, List.setIfInBounds_toArray, List.set_cons_succ, List.set_cons_zero]; go_big_quiet_on))
  (go_big_quiet_want; refine quiet_build 50 _ (by rfl) (woc false false false (.slice none 0 0)) (by kernel_rfl) ?_; simp only [Act.put, List.setIfInBounds_toArray, List.set_cons_succ, List.set_cons_zero]; go_big_quiet_on)
  (first | (go_big_quiet_want; refine quiet_load_agg 46 _ (by rfl) gb 0 (by rfl) (whc kbF sst (.slice (some ⟨g8, 0, none⟩) 8 8) (.slice none 0 0) (.slice none 0 0)) _ HF.out.b.lt (lrow_cells HF.out.b) Tryz.underlying46 (by rfl) (info_whU _ _ _ _ _) ?_; simp only [Act.put, List.setIfInBounds_toArray, List.set_cons_succ, List.set_cons_zero]; go_big_quiet_on) | (go_big_quiet_want; refine quiet_load_agg 46 _ (by rfl) ga 0 (by rfl) (whc kaF sst (.slice (some ⟨g9, 0, none⟩) 8 8) (.slice none 0 0) (.slice none 0 0)) _ HF.out.a.lt (lrow_cells HF.out.a) Tryz.underlying46 (by rfl) (info_whU _ _ _ _ _) ?_; simp only [Act.put, List.setIfInBounds_toArray, List.set_cons_succ, List.set_cons_zero]; go_big_quiet_on) | (go_big_quiet_want; refine quiet_load_agg 52 _ (by rfl) gr 0 (by rfl) (rwc rrF) _ HR.out.lt (lrow_cells HR.out) Tryz.underlying52 (by rfl) (info_rw _) ?_; simp only [Act.put, List.setIfInBounds_toArray, List.set_cons_succ, List.set_cons_zero]; go_big_quiet_on))
  (go_big_quiet_step ((go_at_call 15; exact calls_later (HS.out _))))
  (go_big_quiet_step (fail))
  (go_big_quiet_step (fail))
  (first | (go_big_quiet_want; refine quiet_load_agg 46 _ (by rfl) gb 0 (by rfl) (whc kbF sst (.slice (some ⟨g8, 0, none⟩) 8 8) (.slice none 0 0) (.slice none 0 0)) _ HF.out.b.lt (lrow_cells HF.out.b) Tryz.underlying46 (by rfl) (info_whU _ _ _ _ _) ?_; simp only [Act.put, List.setIfInBounds_toArray, List.set_cons_succ, List.set_cons_zero]; go_big_quiet_on) | (go_big_quiet_want; refine quiet_load_agg 46 _ (by rfl) ga 0 (by rfl) (whc kaF sst (.slice (some ⟨g9, 0, none⟩) 8 8) (.slice none 0 0) (.slice none 0 0)) _ HF.out.a.lt (lrow_cells HF.out.a) Tryz.underlying46 (by rfl) (info_whU _ _ _ _ _) ?_; simp only [Act.put, List.setIfInBounds_toArray, List.set_cons_succ, List.set_cons_zero]; go_big_quiet_on) | (go_big_quiet_want; refine quiet_load_agg 52 _ (by rfl) gr 0 (by rfl) (rwc rrF) _ HR.out.lt (lrow_cells HR.out) Tryz.underlying52 (by rfl) (info_rw _) ?_; simp only [Act.put, List.setIfInBounds_toArray, List.set_cons_succ, List.set_cons_zero]; go_big_quiet_on))
  (first | (go_big_quiet_want; refine quiet_load_agg 46 _ (by rfl) gb 0 (by rfl) (whc kbF sst (.slice (some ⟨g8, 0, none⟩) 8 8) (.slice none 0 0) (.slice none 0 0)) _ HF.out.b.lt (lrow_cells HF.out.b) Tryz.underlying46 (by rfl) (info_whU _ _ _ _ _) ?_; simp only [Act.put, List.setIfInBounds_toArray, List.set_cons_succ, List.set_cons_zero]; go_big_quiet_on) | (go_big_quiet_want; refine quiet_load_agg 46 _ (by rfl) ga 0 (by rfl) (whc kaF sst (.slice (some ⟨g9, 0, none⟩) 8 8) (.slice none 0 0) (.slice none 0 0)) _ HF.out.a.lt (lrow_cells HF.out.a) Tryz.underlying46 (by rfl) (info_whU _ _ _ _ _) ?_; simp only [Act.put, List.setIfInBounds_toArray, List.set_cons_succ, List.set_cons_zero]; go_big_quiet_on) | (go_big_quiet_want; refine quiet_load_agg 52 _ (by rfl) gr 0 (by rfl) (rwc rrF) _ HR.out.lt (lrow_cells HR.out) Tryz.underlying52 (by rfl) (info_rw _) ?_; simp only [Act.put, List.setIfInBounds_toArray, List.set_cons_succ, List.set_cons_zero]; go_big_quiet_on))
  (go_big_quiet_step ((go_at_call 12; exact calls_later (HA1.out _))))
  (go_big_quiet_step (fail))
  (go_big_quiet_step (fail))
  (go_big_quiet_step (fail))
  (first | (go_big_quiet_want; refine quiet_load_agg 46 _ (by rfl) gb 0 (by rfl) (whc kbF sst (.slice (some ⟨g8, 0, none⟩) 8 8) (.slice none 0 0) (.slice none 0 0)) _ HF.out.b.lt (lrow_cells HF.out.b) Tryz.underlying46 (by rfl) (info_whU _ _ _ _ _) ?_; simp only [Act.put, List.setIfInBounds_toArray, List.set_cons_succ, List.set_cons_zero]; go_big_quiet_on) | (go_big_quiet_want; refine quiet_load_agg 46 _ (by rfl) ga 0 (by rfl) (whc kaF sst (.slice (some ⟨g9, 0, none⟩) 8 8) (.slice none 0 0) (.slice none 0 0)) _ HF.out.a.lt (lrow_cells HF.out.a) Tryz.underlying46 (by rfl) (info_whU _ _ _ _ _) ?_; simp only [Act.put, List.setIfInBounds_toArray, List.set_cons_succ, List.set_cons_zero]; go_big_quiet_on) | (go_big_quiet_want; refine quiet_load_agg 52 _ (by rfl) gr 0 (by rfl) (rwc rrF) _ HR.out.lt (lrow_cells HR.out) Tryz.underlying52 (by rfl) (info_rw _) ?_; simp only [Act.put, List.setIfInBounds_toArray, List.set_cons_succ, List.set_cons_zero]; go_big_quiet_on))
  (first | (go_big_quiet_want; refine quiet_load_agg 46 _ (by rfl) gb 0 (by rfl) (whc kbF sst (.slice (some ⟨g8, 0, none⟩) 8 8) (.slice none 0 0) (.slice none 0 0)) _ HF.out.b.lt (lrow_cells HF.out.b) Tryz.underlying46 (by rfl) (info_whU _ _ _ _ _) ?_; simp only [Act.put, List.setIfInBounds_toArray, List.set_cons_succ, List.set_cons_zero]; go_big_quiet_on) | (go_big_quiet_want; refine quiet_load_agg 46 _ (by rfl) ga 0 (by rfl) (whc kaF sst (.slice (some ⟨g9, 0, none⟩) 8 8) (.slice none 0 0) (.slice none 0 0)) _ HF.out.a.lt (lrow_cells HF.out.a) Tryz.underlying46 (by rfl) (info_whU _ _ _ _ _) ?_; simp only [Act.put, List.setIfInBounds_toArray, List.set_cons_succ, List.set_cons_zero]; go_big_quiet_on) | (go_big_quiet_want; refine quiet_load_agg 52 _ (by rfl) gr 0 (by rfl) (rwc rrF) _ HR.out.lt (lrow_cells HR.out) Tryz.underlying52 (by rfl) (info_rw _) ?_; simp only [Act.put, List.setIfInBounds_toArray, List.set_cons_succ, List.set_cons_zero]; go_big_quiet_on))
  (go_big_quiet_step ((go_at_call 12; exact calls_later (HA2.out _))))
  (go_big_quiet_step (fail))
  refine wpQuiet_nil ?_
  rintro _ ⟨yq, rfl⟩
  --@R12
  have HFy := Hid.mkU (HF.out.later yq.2)
  have HRy := Hid.mkU (lrow HR.out yq)
  clear HF HR HS HA1 HA2
  go_upto_region 13 with fail
  refine on_W (motive := fun W => Code.wp _ _ _ _ W) (Q := fun W => Ff w kbF kaF b8 gb ga g8 g9 W ∧ Row W gr (rwc rrF) 52) ⟨HFy.out, HRy.out⟩ ?_
  clear HFy HRy hne yq W6
  rintro W7 ⟨q, q2⟩
  have HF := Hid.mkU q
  have HR := Hid.mkU q2
  clear q q2
  have c0 : W7.cell? ⟨ga, 7, none⟩ = some (.int .u64 (n64 (kaF.x 6))) := (HF.out.a.cell 7).trans (whc_c _ _ _ _ _ 7 _ (cpc_at _ 7 (by omega)))
  have f0 := HF.out.a.froz 7
  go_upto_region 14 with fail
  --@R14
  refine on_W (motive := fun W => Code.wp _ _ _ _ W) (Q := fun W => Ff w kbF kaX b8 gb ga g8 g9 W ∧ Row W gr (rwc rrF) 52) ⟨HF.out.seta rfl kaX (row_cast (HF.out.a.put (i := 7) (.int .u64 1)) (f_x g9)) (fun g hg => set_old _ _ _ _ _ hg) (below_put HF.out.be HF.out.oa _), HR.out.other ga5.out _⟩ ?_
  clear c0 f0 HF HR
  rintro W8 ⟨q, q2⟩
  have HF := Hid.mkU q
  have HR := Hid.mkU q2
  clear q q2 W7
  have T2 : ∀ x : Later W8, Two18 sst sst (.slice (some ⟨g8, 0, none⟩) 8 8) (.slice none 0 0) (.slice none 0 0) (.slice (some ⟨g9, 0, none⟩) 8 8) (.slice none 0 0) (.slice none 0 0) x.1 := fun x => ⟨bs_s (lrow HF.out.m x), bs_s (lrow HF.out.n x), (HT.out.next HF.out.be).next x.2, by decide, by decide, fun y hy => by cases hy⟩
  have HS : Hid (∀ x : Later W8, Calls Tryz.prog 15 #[.agg (whc kbF sst (.slice (some ⟨g8, 0, none⟩) 8 8) (.slice none 0 0) (.slice none 0 0)), .agg (whc kaX sst (.slice (some ⟨g9, 0, none⟩) 8 8) (.slice none 0 0) (.slice none 0 0)), .agg (woc false false false (.slice none 0 0)), .agg (rwc rrF)] x.1 fun e w' => e = .returned (.int .i64 4) ∧ Below x.1.heap.size x.1 w') := fun x => by rw [← f_4]; exact step_c kbF sst _ _ _ kaX sst _ _ _ false false false _ rrF x.1 (T2 x) rfl
  have hne := later_nonempty W8
  clear T2
  refine wp_region_plain (x0 := Later.start W8) ?_
  (first | (go_big_quiet_want; refine quiet_load_agg 46 _ (by rfl) gb 0 (by rfl) (whc kbF sst (.slice (some ⟨g8, 0, none⟩) 8 8) (.slice none 0 0) (.slice none 0 0)) _ HF.out.b.lt (lrow_cells HF.out.b) Tryz.underlying46 (by rfl) (info_whU _ _ _ _ _) ?_; simp only [Act.put, List.setIfInBounds_toArray, List.set_cons_succ, List.set_cons_zero]; go_big_quiet_on) | (go_big_quiet_want; refine quiet_load_agg 46 _ (by rfl) ga 0 (by rfl) (whc kaX sst (.slice (some ⟨g9, 0, none⟩) 8 8) (.slice none 0 0) (.slice none 0 0)) _ HF.out.a.lt (lrow_cells HF.out.a) Tryz.underlying46 (by rfl) (info_whU _ _ _ _ _) ?_; simp only [Act.put, List.setIfInBounds_toArray, List.set_cons_succ, List.set_cons_zero]; go_big_quiet_on) | (go_big_quiet_want; refine quiet_load_agg 52 _ (by rfl) gr 0 (by rfl) (rwc rrF) _ HR.out.lt (lrow_cells HR.out) Tryz.underlying52 (by rfl) (info_rw _) ?_; simp only [Act.put, List.setIfInBounds_toArray, List.set_cons_succ, List.set_cons_zero]; go_big_quiet_on))
  (first | (go_big_quiet_want; refine quiet_load_agg 46 _ (by rfl) gb 0 (by rfl) (whc kbF sst (.slice (some ⟨g8, 0, none⟩) 8 8) (.slice none 0 0) (.slice none 0 0)) _ HF.out.b.lt (lrow_cells HF.out.b) Tryz.underlying46 (by rfl) (info_whU _ _ _ _ _) ?_; simp only [Act.put, List.setIfInBounds_toArray, List.set_cons_succ, List.set_cons_zero]; go_big_quiet_on) | (go_big_quiet_want; refine quiet_load_agg 46 _ (by rfl) ga 0 (by rfl) (whc kaX sst (.slice (some ⟨g9, 0, none⟩) 8 8) (.slice none 0 0) (.slice none 0 0)) _ HF.out.a.lt (lrow_cells HF.out.a) Tryz.underlying46 (by rfl) (info_whU _ _ _ _ _) ?_; simp only [Act.put, List.setIfInBounds_toArray, List.set_cons_succ, List.set_cons_zero]; go_big_quiet_on) | (go_big_quiet_want; refine quiet_load_agg 52 _ (by rfl) gr 0 (by rfl) (rwc rrF) _ HR.out.lt (lrow_cells HR.out) Tryz.underlying52 (by rfl) (info_rw _) ?_; simp only [Act.put, List.setIfInBounds_toArray, List.set_cons_succ, List.set_cons_zero]; go_big_quiet_on))
  (go_big_quiet_want; refine quiet_build 50 _ (by rfl) (woc false false false (.slice none 0 0)) (by kernel_rfl) ?_; simp only [Act.put, List.setIfInBounds_toArray, List.set_cons_succ, List.set_cons_zero]; go_big_quiet_on)
  (first | (go_big_quiet_want; refine quiet_load_agg 46 _ (by rfl) gb 0 (by rfl) (whc kbF sst (.slice (some ⟨g8, 0, none⟩) 8 8) (.slice none 0 0) (.slice none 0 0)) _ HF.out.b.lt (lrow_cells HF.out.b) Tryz.underlying46 (by rfl) (info_whU _ _ _ _ _) ?_; simp only [Act.put, List.setIfInBounds_toArray, List.set_cons_succ, List.set_cons_zero]; go_big_quiet_on) | (go_big_quiet_want; refine quiet_load_agg 46 _ (by rfl) ga 0 (by rfl) (whc kaX sst (.slice (some ⟨g9, 0, none⟩) 8 8) (.slice none 0 0) (.slice none 0 0)) _ HF.out.a.lt (lrow_cells HF.out.a) Tryz.underlying46 (by rfl) (info_whU _ _ _ _ _) ?_; simp only [Act.put, List.setIfInBounds_toArray, List.set_cons_succ, List.set_cons_zero]; go_big_quiet_on) | (go_big_quiet_want; refine quiet_load_agg 52 _ (by rfl) gr 0 (by rfl) (rwc rrF) _ HR.out.lt (lrow_cells HR.out) Tryz.underlying52 (by rfl) (info_rw _) ?_; simp only [Act.put, List.setIfInBounds_toArray, List.set_cons_succ, List.set_cons_zero]; go_big_quiet_on))
  (go_big_quiet_step ((go_at_call 15; exact calls_later (HS.out _))))
  (go_big_quiet_step (fail))
  refine wpQuiet_nil ?_
  rintro _ ⟨yq, rfl⟩
  have HFy := Hid.mkU (HF.out.later yq.2)
  have HRy := Hid.mkU (lrow HR.out yq)
  clear HF HR HS
  go_upto_region 16 with fail
  --@R16
  refine on_W (motive := fun W => Code.wp _ _ _ _ W) (Q := fun W => Ff w kbF kaX b8 gb ga g8 g9 W ∧ Row W gr (rwc rrF) 52) ⟨HFy.out, HRy.out⟩ ?_
  clear HFy HRy hne yq W8
  rintro W9 ⟨q, q2⟩
  have HF := Hid.mkU q
  have HR := Hid.mkU q2
  clear q q2
  have c0 : W9.cell? ⟨ga, 7, none⟩ = some (.int .u64 (n64 (kaX.x 6))) := (HF.out.a.cell 7).trans (whc_c _ _ _ _ _ 7 _ (cpc_at _ 7 (by omega)))
  have f0 := HF.out.a.froz 7
  go_upto_region 17 with fail
  refine on_W (motive := fun W => Code.wp _ _ _ _ W) (Q := fun W => Ff w kbF kaF b8 gb ga g8 g9 W ∧ Row W gr (rwc rrF) 52) ⟨HF.out.seta rfl kaF (row_cast (HF.out.a.put (i := 7) (.int .u64 0)) (f_y g9)) (fun g hg => set_old _ _ _ _ _ hg) (below_put HF.out.be HF.out.oa _), HR.out.other ga5.out _⟩ ?_
  clear c0 f0 HF HR
  rintro V1 ⟨q, q2⟩
  have HF := Hid.mkU q
  have HR := Hid.mkU q2
  clear q q2 W9
  have c0 : V1.cell? ⟨ga, 82, none⟩ = some (.slice (some ⟨g9, 0, none⟩) 8 8) := (HF.out.a.cell 82).trans (whc_b _ _ _ _ _ 0 _ rfl)
  have c1 : V1.cell? ⟨g9, 3, none⟩ = some (.int .u8 0) := HF.out.n.cell 3
  have f1 := HF.out.n.froz 3
  go_upto_region 18 with fail
  --@R18
  refine on_W (motive := fun W => Code.wp _ _ _ _ W) (Q := fun W => Ff w kbF kaF b8X gb ga g8 g9 W ∧ Row W gr (rwc rrF) 52) ⟨HF.out.setn _, HR.out.other (Row.ne_size HR.out HF.out.n (by decide)) _⟩ ?_
  clear c0 c1 f1 HF HR
  rintro V2 ⟨q, q2⟩
  have HF := Hid.mkU q
  have HR := Hid.mkU q2
  clear q q2 V1
  have T2 : ∀ x : Later V2, Two18 sst ssX (.slice (some ⟨g8, 0, none⟩) 8 8) (.slice none 0 0) (.slice none 0 0) (.slice (some ⟨g9, 0, none⟩) 8 8) (.slice none 0 0) (.slice none 0 0) x.1 := fun x => ⟨bs_s (lrow HF.out.m x), bs_x (lrow HF.out.n x), (HT.out.next HF.out.be).next x.2, by decide, by decide, fun y hy => by cases hy⟩
  have HS : Hid (∀ x : Later V2, Calls Tryz.prog 15 #[.agg (whc kbF sst (.slice (some ⟨g8, 0, none⟩) 8 8) (.slice none 0 0) (.slice none 0 0)), .agg (whc kaF sst (.slice (some ⟨g9, 0, none⟩) 8 8) (.slice none 0 0) (.slice none 0 0)), .agg (woc false false false (.slice none 0 0)), .agg (rwc rrF)] x.1 fun e w' => e = .returned (.int .i64 6) ∧ Below x.1.heap.size x.1 w') := fun x => by
    have q := step_c kbF sst _ _ _ kaF ssX _ _ _ false false false (.slice none 0 0) rrF x.1 (T2 x) rfl
    rw [f_5, ← f_ss] at q; exact q
  have hne := later_nonempty V2
  clear T2
  refine wp_region_plain (x0 := Later.start V2) ?_
  (first | (go_big_quiet_want; refine quiet_load_agg 46 _ (by rfl) gb 0 (by rfl) (whc kbF sst (.slice (some ⟨g8, 0, none⟩) 8 8) (.slice none 0 0) (.slice none 0 0)) _ HF.out.b.lt (lrow_cells HF.out.b) Tryz.underlying46 (by rfl) (info_whU _ _ _ _ _) ?_; simp only [Act.put, List.setIfInBounds_toArray, List.set_cons_succ, List.set_cons_zero]; go_big_quiet_on) | (go_big_quiet_want; refine quiet_load_agg 46 _ (by rfl) ga 0 (by rfl) (whc kaF sst (.slice (some ⟨g9, 0, none⟩) 8 8) (.slice none 0 0) (.slice none 0 0)) _ HF.out.a.lt (lrow_cells HF.out.a) Tryz.underlying46 (by rfl) (info_whU _ _ _ _ _) ?_; simp only [Act.put, List.setIfInBounds_toArray, List.set_cons_succ, List.set_cons_zero]; go_big_quiet_on) | (go_big_quiet_want; refine quiet_load_agg 52 _ (by rfl) gr 0 (by rfl) (rwc rrF) _ HR.out.lt (lrow_cells HR.out) Tryz.underlying52 (by rfl) (info_rw _) ?_; simp only [Act.put, List.setIfInBounds_toArray, List.set_cons_succ, List.set_cons_zero]; go_big_quiet_on))
  (first | (go_big_quiet_want; refine quiet_load_agg 46 _ (by rfl) gb 0 (by rfl) (whc kbF sst (.slice (some ⟨g8, 0, none⟩) 8 8) (.slice none 0 0) (.slice none 0 0)) _ HF.out.b.lt (lrow_cells HF.out.b) Tryz.underlying46 (by rfl) (info_whU _ _ _ _ _) ?_; simp only [Act.put, List.setIfInBounds_toArray, List.set_cons_succ, List.set_cons_zero]; go_big_quiet_on) | (go_big_quiet_want; refine quiet_load_agg 46 _ (by rfl) ga 0 (by rfl) (whc kaF sst (.slice (some ⟨g9, 0, none⟩) 8 8) (.slice none 0 0) (.slice none 0 0)) _ HF.out.a.lt (lrow_cells HF.out.a) Tryz.underlying46 (by rfl) (info_whU _ _ _ _ _) ?_; simp only [Act.put, List.setIfInBounds_toArray, List.set_cons_succ, List.set_cons_zero]; go_big_quiet_on) | (go_big_quiet_want; refine quiet_load_agg 52 _ (by rfl) gr 0 (by rfl) (rwc rrF) _ HR.out.lt (lrow_cells HR.out) Tryz.underlying52 (by rfl) (info_rw _) ?_; simp only [Act.put, List.setIfInBounds_toArray, List.set_cons_succ, List.set_cons_zero]; go_big_quiet_on))
  (go_big_quiet_want; refine quiet_build 50 _ (by rfl) (woc false false false (.slice none 0 0)) (by kernel_rfl) ?_; simp only [Act.put, List.setIfInBounds_toArray, List.set_cons_succ, List.set_cons_zero]; go_big_quiet_on)
  (first | (go_big_quiet_want; refine quiet_load_agg 46 _ (by rfl) gb 0 (by rfl) (whc kbF sst (.slice (some ⟨g8, 0, none⟩) 8 8) (.slice none 0 0) (.slice none 0 0)) _ HF.out.b.lt (lrow_cells HF.out.b) Tryz.underlying46 (by rfl) (info_whU _ _ _ _ _) ?_; simp only [Act.put, List.setIfInBounds_toArray, List.set_cons_succ, List.set_cons_zero]; go_big_quiet_on) | (go_big_quiet_want; refine quiet_load_agg 46 _ (by rfl) ga 0 (by rfl) (whc kaF sst (.slice (some ⟨g9, 0, none⟩) 8 8) (.slice none 0 0) (.slice none 0 0)) _ HF.out.a.lt (lrow_cells HF.out.a) Tryz.underlying46 (by rfl) (info_whU _ _ _ _ _) ?_; simp only [Act.put, List.setIfInBounds_toArray, List.set_cons_succ, List.set_cons_zero]; go_big_quiet_on) | (go_big_quiet_want; refine quiet_load_agg 52 _ (by rfl) gr 0 (by rfl) (rwc rrF) _ HR.out.lt (lrow_cells HR.out) Tryz.underlying52 (by rfl) (info_rw _) ?_; simp only [Act.put, List.setIfInBounds_toArray, List.set_cons_succ, List.set_cons_zero]; go_big_quiet_on))
  (go_big_quiet_step ((go_at_call 15; exact calls_later (HS.out _))))
  (go_big_quiet_step (fail))
  refine wpQuiet_nil ?_
  rintro _ ⟨yq, rfl⟩
  have HB := Hid.mkU (HF.out.later yq.2).be
  clear HF HR HS hne
  go_upto_region 20 with fail
  --@R20
  refine on_W (motive := fun W => Code.wp _ _ _ _ W) (Q := fun W => Below w.heap.size w W) HB.out ?_
  clear HB yq V2
  rintro V3 q
  have HB := Hid.mkU q
  clear q
  have HTR : Hid (∀ W g, Row W g (rwc r2F) 52 → Calls Tryz.prog 7 #[.agg (trc (.slice (some ⟨g, 0, none⟩) 1 1) cz 0 0 (.slice none 0 0))] W fun e w' => e = .returned (.tuple #[.int .i64 1, .int .i64 0]) ∧ Below W.heap.size W w') := fun W g h => by
    have q := trace_c [r2F] _ cz 0 0 (.slice none 0 0) W (rws1 h) (by decide) (fun r hr => by rw [List.mem_singleton.1 hr]; rfl)
    have e1 : trV (kpB [r2F]) [r2F].length (enV [r2F] cz) = (1, 0) := f_6
    rw [e1] at q; exact q
  go_wp2_with (first | (refine wpList_build_tab (by rfl) 52 _ (by rfl) (rwc r2F) (by kernel_rfl) ?_) | (refine wpList_build_tab (by rfl) 35 _ (by rfl) (trc (.slice (some ⟨V3.heap.size, 0, none⟩) 1 1) cz 0 0 (.slice none 0 0)) (by kernel_rfl) ?_) | (go_at_call 7; refine (HTR.out _ V3.heap.size (Row.new V3 (rwc r2F) 52)).mono ?_; rintro e v4 ⟨rfl, hb4⟩; have HB4 := Hid.mkU (HB.out.trans (((below_al V3 (.cells (rwc r2F) 52)).trans (hb4.mono (below_al V3 (.cells (rwc r2F) 52)).size)).mono HB.out.size)); clear hb4))
  go_ret
  exact ⟨rfl, HB4.out⟩
end Go.Proofs.YtidfndgedopghaaGreatDoor
