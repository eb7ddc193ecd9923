/-
  Oy Pcd.
-/
import Derived.Test.YtidfndgedopghaaGreatDoorM42
import Derived.Test.YtidfndgedopghaaGreatDoorM25
import Derived.Test.YtidfndgedopghaaGreatDoorM29
import Derived.Test.YtidfndgedopghaaGreatDoorM32
import Derived.Test.YtidfndgedopghaaGreatDoorM06
import Derived.Test.YtidfndgedopghaaGreatDoorM07
import Derived.Test.YtidfndgedopghaaGreatDoorCards
import Derived.Test.YtidfndgedopghaaGreatDoorTie
import Derived.PinnedBridge
import Derived.Lay
import Derived.LaidOnce
import Derived.SevenTiedAt
import Derived.Lib.LaidU8T
namespace Go.Proofs.YtidfndgedopghaaGreatDoor
set_option linter.unusedVariables false
set_option maxRecDepth 100000
set_option maxHeartbeats 4000000
open Go.ChangeShapes Go.WideShapes Go.ChangeAt Go.RowKit Go.Deep
/-- A sight's cells, as it comes in. -/
def sic (b : Cp) (B : St) (br bi bo : Value) (a : Cp) (A : St) (ar ai ao : Value) (tk ex so : Bool) (vi : Value) (r : Rw) : Array Value := whc b B br bi bo ++ (whc a A ar ai ao ++ (woc tk ex so vi ++ rwc r))
section
variable (b : Cp) (B : St) (br bi bo : Value) (a : Cp) (A : St) (ar ai ao : Value) (tk ex so : Bool) (vi : Value) (r : Rw)
theorem sic_b : ∀ j v, (whc b B br bi bo)[j]? = some v → (sic b B br bi bo a A ar ai ao tk ex so vi r)[0 + j]? = some v := fun j v h => by
  have hj := (Array.getElem?_eq_some_iff.1 h).1
  unfold sic
  rw [Nat.zero_add, Array.getElem?_append_left hj]
  exact h
theorem sic_a : ∀ j v, (whc a A ar ai ao)[j]? = some v → (sic b B br bi bo a A ar ai ao tk ex so vi r)[97 + j]? = some v := fun j v h => by
  have hj := (Array.getElem?_eq_some_iff.1 h).1
  have h1 := whc_size b B br bi bo
  unfold sic
  rw [Array.getElem?_append_right (by omega), Array.getElem?_append_left (by omega)]
  rw [show 97 + j - (whc b B br bi bo).size = j by omega]
  exact h
theorem sic_hi (j : Nat) : (sic b B br bi bo a A ar ai ao tk ex so vi r)[194 + j]? = (woc tk ex so vi ++ rwc r)[j]? := by
  have h1 := whc_size b B br bi bo
  have h2 := whc_size a A ar ai ao
  unfold sic
  rw [Array.getElem?_append_right (by omega), Array.getElem?_append_right (by omega)]
  rw [show 194 + j - (whc b B br bi bo).size - (whc a A ar ai ao).size = j by omega]
theorem sic_w : ∀ j v, (woc tk ex so vi)[j]? = some v → (sic b B br bi bo a A ar ai ao tk ex so vi r)[194 + j]? = some v := fun j v h => by
  have hj := (Array.getElem?_eq_some_iff.1 h).1
  rw [sic_hi, Array.getElem?_append_left hj]
  exact h
theorem sic_r : ∀ j v, (rwc r)[j]? = some v → (sic b B br bi bo a A ar ai ao tk ex so vi r)[198 + j]? = some v := fun j v h => by
  have h4 : (woc tk ex so vi).size = 4 := rfl
  rw [show 198 + j = 194 + (4 + j) by omega, sic_hi, Array.getElem?_append_right (by omega)]
  rw [show 4 + j - (woc tk ex so vi).size = j by omega]
  exact h
theorem sic_size : (sic b B br bi bo a A ar ai ao tk ex so vi r).size = 214 := by
  have h1 := whc_size b B br bi bo
  have h2 := whc_size a A ar ai ao
  have h4 : (woc tk ex so vi).size = 4 := rfl
  have h5 := rwc_size r
  unfold sic
  simp only [Array.size_append, h1, h2, h4, h5]
end
theorem zero_wo (w : World) : (zeroValue 50).run Tryz.prog w = .ok (.agg (woc false false false (.slice none 0 0))) w := by kernel_rfl
theorem woc_ones (tk ex so : Bool) (x : Option Addr) (n c : Nat) : (woc tk ex so (.slice x n c)).all (·.oneCell') = true := by simp [woc, Value.oneCell']
theorem woc_set (tk ex so : Bool) (vi v : Value) : (woc tk ex so vi).setIfInBounds 3 v = woc tk ex so v := rfl
/-- Behind an append to a block that was just made: what was there ahead of it stays. -/
theorem below_made {W w' : World} {o : Obj} (hg : (W.alloc o).grownBy w' (some W.heap.size)) : Below W.heap.size W w' := by
  have b := below_al W o
  exact ⟨hg.os.trans b.os, hg.tape.trans b.tape, hg.output.trans b.output, Nat.le_trans b.size hg.size, fun k hk => (hg.block k (by have := b.size; omega) (fun e => by cases e; omega)).trans (b.block k hk)⟩
theorem first_call (w : World) (hT : Tb w) : Calls Tryz.prog 10 #[] w fun e w' => e = .returned (.bool true) ∧ Below w.heap.size w w' := first_c w hT
set_option maxHeartbeats 16000000 in
theorem watchSteps_walk (b : Cp) (B : St) (br bi bo : Value) (a : Cp) (A : St) (ar ai ao : Value) (tk ex so : Bool) (vi : Value) (r : Rw) (l : List Int) (w : World) (hT : Tb w) (hB : Bs B br bi bo w) (hA : Bs A ar ai ao w) (wB : StW B) (wA : StW A) (l1 : B.ram.length ≤ 140737488351232) (l2 : B.inp.length ≤ 140737488351232) (l3 : B.out.length ≤ 140737488351232) (m1 : A.ram.length ≤ 140737488351232) (m2 : A.inp.length ≤ 140737488351232) (m3 : A.out.length ≤ 140737488351232) (ob : (whc b B br bi bo).all (·.oneCell') = true) (oa : (whc a A ar ai ao).all (·.oneCell') = true) (oi : vi.oneCell' = true) (hvi : Byt w vi l) (ll : l.length ≤ 140737488351232) :
    Calls Tryz.prog 5 #[.agg (sic b B br bi bo a A ar ai ao tk ex so vi r)] w fun e w' => e = .returned (.bool true) ∧ Below w.heap.size w w' := by
  have hz := zero_wh
  have hzw := zero_wo
  obtain ⟨W0, hW0, r0, b0, s0⟩ := start1 w (sic b B br bi bo a A ar ai ao tk ex so vi r) 54
  have BB := Hid.mkU b0.out
  have HVI : Hid (∀ W, Below w.heap.size w W → Byt W vi l) := fun W h => hvi.later h rfl
  have HLL := Hid.mkU ll
  have HTB : Hid (∀ W, Below w.heap.size w W → Calls Tryz.prog 11 #[.agg (whc b B br bi bo)] W fun e w' => ∃ ur ui uo, e = .returned (.agg (whc b B ur ui uo)) ∧ Bs B ur ui uo w' ∧ (whc b B ur ui uo).all (·.oneCell') = true ∧ Below W.heap.size W w') := fun W h => twin_c b B br bi bo W (hB.later h) (by omega) (by omega) (by omega)
  have HTA : Hid (∀ W, Below w.heap.size w W → Calls Tryz.prog 11 #[.agg (whc a A ar ai ao)] W fun e w' => ∃ ur ui uo, e = .returned (.agg (whc a A ur ui uo)) ∧ Bs A ur ui uo w' ∧ (whc a A ur ui uo).all (·.oneCell') = true ∧ Below W.heap.size W w') := fun W h => twin_c a A ar ai ao W (hA.later h) (by omega) (by omega) (by omega)
  have HST : Hid (∀ (xr xi xo yr yi yo v : Value) (W : World), Below w.heap.size w W → Bs B xr xi xo W → Bs A yr yi yo W → v.oneCell' = true → Calls Tryz.prog 15 #[.agg (whc b B xr xi xo), .agg (whc a A yr yi yo), .agg (woc tk ex so v), .agg (rwc r)] W fun e w' => e = .returned (.int .i64 (stV b B a A tk ex so r)) ∧ Below W.heap.size W w') := fun xr xi xo yr yi yo v W h h1 h2 h3 => step_c b B xr xi xo a A yr yi yo tk ex so v r W ⟨h1, h2, hT.next h, l1, l3, wA.o⟩ h3
  have HRS : Hid (∀ W, Below w.heap.size w W → Calls Tryz.prog 16 #[.agg (whc b B br bi bo), .agg (whc a A ar ai ao), .agg (woc tk ex so vi), .agg (rwc r)] W fun e w' => e = .returned (.int .i64 (stV b B a A tk ex so r)) ∧ Below W.heap.size W w') := fun W h => by
    rw [← rsV_eq b B a A tk ex so r wA.r wA.i wA.o wB.r wB.i wB.o l1 wB.time.1 wB.time.2]
    exact rstep_c b B br bi bo a A ar ai ao tk ex so vi r W ⟨hA.later h, hB.later h, ⟨m1, m2, m3⟩, ⟨l1, l2, l3⟩, wA.o⟩ ob oa oi
  have HSB : Hid (∀ (xr xi xo : Value) (W : World), Below w.heap.size w W → Bs B xr xi xo W → Calls Tryz.prog 14 #[.agg (whc b B xr xi xo), .agg (whc b B br bi bo)] W fun e w' => e = .returned (.bool true) ∧ Below W.heap.size W w') := fun xr xi xo W h h1 => same18_c b B _ _ _ _ _ _ W h1 (hB.later h)
  have HSA : Hid (∀ (yr yi yo : Value) (W : World), Below w.heap.size w W → Bs A yr yi yo W → Calls Tryz.prog 14 #[.agg (whc a A yr yi yo), .agg (whc a A ar ai ao)] W fun e w' => e = .returned (.bool true) ∧ Below W.heap.size W w') := fun yr yi yo W h h1 => same18_c a A _ _ _ _ _ _ W h1 (hA.later h)
  have HFI : Hid (∀ W, Below w.heap.size w W → Calls Tryz.prog 10 #[] W fun e w' => e = .returned (.bool true) ∧ Below W.heap.size W w') := fun W h => first_call W (hT.next h)
  have HVO := Hid.mkU oi
  clear hT hB hA wB wA l1 l2 l3 m1 m2 m3 ob oa oi hvi ll b0 s0
  generalize stV b B a A tk ex so r = kk at *
  go_enter Tryz.func5, Tryz.ntmps5
  go_upto_region 1 with fail
  clear hW0
  have CB : Hid (∀ j v, (whc b B br bi bo)[j]? = some v → W0.cell? ⟨w.heap.size, 0 + j, none⟩ = some v) := fun j v hv => (r0.out.cell (0 + j)).trans (sic_b b B br bi bo a A ar ai ao tk ex so vi r j v hv)
  go_upto_region 2 with (first | (refine wpList_load_agg (by rfl) 46 _ (by rfl) w.heap.size 0 (by rfl) (whc b B br bi bo) _ CB.out Tryz.underlying46 (by rfl) (info_whU ..) ?_) | (go_at_call 11; refine (HTB.out _ BB.out).mono ?_; rintro e w1 ⟨xr, xi, xo, rfl, q1, q2, q3⟩; have HBX := Hid.mkU q1; have HON : Hid ((whc b B xr xi xo).all (·.oneCell') = true) := q2; have HB1 := Hid.mkU q3; clear q1 q2 q3) | (refine wpList_store_new (by rfl) 46 _ _ (by rfl) (by rfl) whz (whc b B xr xi xo) (by rfl) (by rfl) (info_whU ..) (whz_size ..) HON.out ?_))
  refine on_W (motive := fun W => Code.wp _ _ _ _ W) (Q := fun W => Row W w.heap.size (sic b B br bi bo a A ar ai ao tk ex so vi r) 54 ∧ Row W w1.heap.size (whc b B xr xi xo) 46 ∧ Below w.heap.size w W ∧ Bs B xr xi xo W) ⟨(r0.out.later HB1.out r0.out.lt).old (r0.out.later HB1.out r0.out.lt).lt _, Row.new _ _ _, BB.out.trans ((HB1.out.trans ((below_al _ _).mono HB1.out.size)).mono BB.out.size), HBX.out.later (below_al _ _)⟩ ?_
  generalize w1.heap.size = gx at *
  clear r0 BB HBX HB1 HON HTB CB
  rintro W2 ⟨q0, q1, q2, q3⟩
  have r0 := Hid.mkU q0
  have rx := Hid.mkU q1
  have BB := Hid.mkU q2
  have HBX := Hid.mkU q3
  clear q0 q1 q2 q3 W0
  have CA : Hid (∀ j v, (whc a A ar ai ao)[j]? = some v → W2.cell? ⟨w.heap.size, 97 + j, none⟩ = some v) := fun j v hv => (r0.out.cell (97 + j)).trans (sic_a b B br bi bo a A ar ai ao tk ex so vi r j v hv)
  go_upto_region 3 with (first | (refine wpList_load_agg (by rfl) 46 _ (by rfl) w.heap.size 97 (by rfl) (whc a A ar ai ao) _ CA.out Tryz.underlying46 (by rfl) (info_whU ..) ?_) | (go_at_call 11; refine (HTA.out _ BB.out).mono ?_; rintro e w3 ⟨yr, yi, yo, rfl, q1, q2, q3⟩; have HBY := Hid.mkU q1; have HON : Hid ((whc a A yr yi yo).all (·.oneCell') = true) := q2; have HB1 := Hid.mkU q3; clear q1 q2 q3) | (refine wpList_store_new (by rfl) 46 _ _ (by rfl) (by rfl) whz (whc a A yr yi yo) (by rfl) (by rfl) (info_whU ..) (whz_size ..) HON.out ?_))
  refine on_W (motive := fun W => Code.wp _ _ _ _ W) (Q := fun W => Row W w.heap.size (sic b B br bi bo a A ar ai ao tk ex so vi r) 54 ∧ Row W gx (whc b B xr xi xo) 46 ∧ Row W w3.heap.size (whc a A yr yi yo) 46 ∧ Below w.heap.size w W ∧ Bs B xr xi xo W ∧ Bs A yr yi yo W) ⟨(r0.out.later HB1.out r0.out.lt).old (r0.out.later HB1.out r0.out.lt).lt _, (rx.out.later HB1.out rx.out.lt).old (rx.out.later HB1.out rx.out.lt).lt _, Row.new _ _ _, BB.out.trans ((HB1.out.trans ((below_al _ _).mono HB1.out.size)).mono BB.out.size), (HBX.out.later HB1.out).later (below_al _ _), HBY.out.later (below_al _ _)⟩ ?_
  generalize w3.heap.size = gy at *
  clear r0 rx BB HBX HBY HB1 HON HTA hz CA
  rintro W3 ⟨q0, q1, q2, q3, q4, q5⟩
  have r0 := Hid.mkU q0
  have rx := Hid.mkU q1
  have ry := Hid.mkU q2
  have BB := Hid.mkU q3
  have HBX := Hid.mkU q4
  have HBY := Hid.mkU q5
  clear q0 q1 q2 q3 q4 q5 W2
  obtain ⟨x0, n0, c0, hvo⟩ : ∃ x n c, vi = .slice x n c := by obtain ⟨x, c, e, -⟩ := HVI.out w (Below.refl _ _); exact ⟨x, _, c, e⟩
  have HON : Hid ((woc tk ex so vi).all (·.oneCell') = true) := by unfold Hid; rw [hvo]; exact woc_ones _ _ _ _ _ _
  clear hvo x0 n0 c0
  have CW : Hid (∀ j v, (woc tk ex so vi)[j]? = some v → W3.cell? ⟨w.heap.size, 194 + j, none⟩ = some v) := fun j v hv => (r0.out.cell (194 + j)).trans (sic_w b B br bi bo a A ar ai ao tk ex so vi r j v hv)
  go_upto_region 4 with (first | (refine wpList_load_agg (by rfl) 50 _ (by rfl) w.heap.size 194 (by rfl) (woc tk ex so vi) _ CW.out Tryz.underlying50 (by rfl) (info_wo ..) ?_) | (refine wpList_store_new (by rfl) 50 _ _ (by rfl) (by rfl) (woc false false false (.slice none 0 0)) (woc tk ex so vi) (by rfl) (by rfl) (info_wo ..) (by rfl) HON.out ?_))
  refine on_W (motive := fun W => Code.wp _ _ _ _ W) (Q := fun W => Row W W3.heap.size (woc tk ex so vi) 50 ∧ Below W3.heap.size W3 W) ⟨Row.new _ _ _, below_al _ _⟩ ?_
  have hl5 : Hid (w.heap.size < W3.heap.size ∧ gx < W3.heap.size ∧ gy < W3.heap.size) := ⟨r0.out.lt, rx.out.lt, ry.out.lt⟩
  have hb5 : Hid (W3.heap.size ≤ W3.heap.size) := Nat.le_refl _
  clear HON CW hzw
  rintro W4 ⟨q0, q1⟩
  have r5 := Hid.mkU q0
  have B4 := Hid.mkU q1
  clear q0 q1
  obtain ⟨g5, hg5⟩ : ∃ g, g = W3.heap.size := ⟨_, rfl⟩
  rw [← hg5] at r5 ⊢
  have HG5 := Hid.mkU hg5
  clear hg5
  have c5 : ∀ o, (W4.alloc o).cell? ⟨g5, 3, none⟩ = some vi := fun o => ((r5.out.old r5.out.lt o).cell 3).trans rfl
  have HVA := Hid.mkU (HVI.out (W4.alloc (.cells #[] 5)) (BB.out.trans ((B4.out.trans ((below_al _ _).mono B4.out.size)).mono BB.out.size)))
  go_upto_region 5 with (at_builtin; refine appL (by rfl) _ _ (by rfl) W4.heap.size _ _ [] l (by rfl) (World.ownsRow_made W4 #[] 0 (Nat.le_refl _) (Nat.zero_le _) rfl) (by rfl) HVA.out (by have := HLL.out; simp; omega) (by simp) ?_; intro v1 w1 ho1 hg1; obtain ⟨x1, y1, z1, rfl⟩ := own_one ho1; have HO1 := Hid.mkU ho1; have HB4 : Hid (Below W4.heap.size W4 w1) := below_made hg1; have c6 : w1.cell? ⟨g5, 3, none⟩ = some vi := ((r5.out.later HB4.out r5.out.lt).cell 3).trans rfl; have f6 := (r5.out.later HB4.out r5.out.lt).froz 3; clear ho1 hg1)
  refine on_W (motive := fun W => Code.wp _ _ _ _ W) (Q := fun W => Row W g5 (woc tk ex so (.slice x1 y1 z1)) 50 ∧ Below W3.heap.size W3 W ∧ Byt W (.slice x1 y1 z1) l) ⟨by have q := (r5.out.later HB4.out r5.out.lt).put (i := 3) (.slice x1 y1 z1); rw [woc_set] at q; exact q, below_put (B4.out.trans (HB4.out.mono B4.out.size)) (by rw [HG5.out]; exact Nat.le_refl _) _, Byt.of_own (own_set (j := 3) (u := .slice x1 y1 z1) HO1.out r5.out.lt)⟩ ?_
  clear r5 B4 c5 HVA c6 f6 HO1 HB4
  rintro W5 ⟨q0, q1, q2⟩
  have r5 := Hid.mkU q0
  have B5 := Hid.mkU q1
  have HY5 := Hid.mkU q2
  have R0 := Hid.mkU (r0.out.later q1 r0.out.lt)
  have RX := Hid.mkU (rx.out.later q1 rx.out.lt)
  have RY := Hid.mkU (ry.out.later q1 ry.out.lt)
  have BX := Hid.mkU (HBX.out.later q1)
  have BY := Hid.mkU (HBY.out.later q1)
  have B9 := Hid.mkU (BB.out.trans (q1.mono BB.out.size))
  clear q0 q1 q2 r0 rx ry HBX HBY BB B5 HG5 hl5 hb5
  have CR : Hid (∀ j v, (rwc r)[j]? = some v → W5.cell? ⟨w.heap.size, 198 + j, none⟩ = some v) := fun j v hv => (R0.out.cell (198 + j)).trans (sic_r b B br bi bo a A ar ai ao tk ex so vi r j v hv)
  go_upto_region 6 with (first | (refine wpList_load_row (by rfl) _ _ (by rfl) _ (by rfl) 46 _ (0, 0) _ RX.out Tryz.underlying46 (by rfl) (info_whU ..) ?_) | (refine wpList_load_row (by rfl) _ _ (by rfl) _ (by rfl) 46 _ (0, 0) _ RY.out Tryz.underlying46 (by rfl) (info_whU ..) ?_) | (refine wpList_load_row (by rfl) _ _ (by rfl) _ (by rfl) 50 _ (0, 0) _ r5.out Tryz.underlying50 (by rfl) (info_wo ..) ?_) | (refine wpList_load_agg (by rfl) 52 _ (by rfl) w.heap.size 198 (by rfl) (rwc r) _ CR.out Tryz.underlying52 (by rfl) (info_rw _) ?_) | (go_at_call 15; refine (HST.out _ _ _ _ _ _ _ _ B9.out BX.out BY.out rfl).mono ?_; rintro e w6 ⟨rfl, q1⟩; have HB6 := Hid.mkU q1; clear q1))
  refine on_W (motive := fun W => Code.wp _ _ _ _ W) (Q := fun W => Row W w.heap.size (sic b B br bi bo a A ar ai ao tk ex so vi r) 54 ∧ Row W gx (whc b B xr xi xo) 46 ∧ Row W gy (whc a A yr yi yo) 46 ∧ Row W g5 (woc tk ex so (.slice x1 y1 z1)) 50 ∧ Below w.heap.size w W ∧ Bs B xr xi xo W ∧ Bs A yr yi yo W ∧ Byt W (.slice x1 y1 z1) l) ⟨R0.out.later HB6.out R0.out.lt, RX.out.later HB6.out RX.out.lt, RY.out.later HB6.out RY.out.lt, r5.out.later HB6.out r5.out.lt, B9.out.trans (HB6.out.mono B9.out.size), BX.out.later HB6.out, BY.out.later HB6.out, HY5.out.later HB6.out rfl⟩ ?_
  clear R0 RX RY r5 B9 BX BY HY5 HB6 CR HST
  rintro W7 ⟨q0, q1, q2, q3, q4, q5, q6, q7⟩
  have r0 := Hid.mkU q0
  have rx := Hid.mkU q1
  have ry := Hid.mkU q2
  have r5 := Hid.mkU q3
  have BB := Hid.mkU q4
  have BX := Hid.mkU q5
  have BY := Hid.mkU q6
  have HY := Hid.mkU q7
  clear q0 q1 q2 q3 q4 q5 q6 q7
  have later7 : ∀ x : Later W7, Below w.heap.size w x.1 := fun x => BB.out.trans (x.2.mono BB.out.size)
  have HC1 : Hid (∀ x : Later W7, Calls Tryz.prog 16 #[.agg (whc b B br bi bo), .agg (whc a A ar ai ao), .agg (woc tk ex so vi), .agg (rwc r)] x.1 fun e w' => e = .returned (.int .i64 kk) ∧ Below x.1.heap.size x.1 w') := fun x => HRS.out x.1 (later7 x)
  have HC2 : Hid (∀ x : Later W7, Calls Tryz.prog 14 #[.agg (whc b B xr xi xo), .agg (whc b B br bi bo)] x.1 fun e w' => e = .returned (.bool true) ∧ Below x.1.heap.size x.1 w') := fun x => HSB.out _ _ _ x.1 (later7 x) (BX.out.later x.2)
  have HC3 : Hid (∀ x : Later W7, Calls Tryz.prog 14 #[.agg (whc a A yr yi yo), .agg (whc a A ar ai ao)] x.1 fun e w' => e = .returned (.bool true) ∧ Below x.1.heap.size x.1 w') := fun x => HSA.out _ _ _ x.1 (later7 x) (BY.out.later x.2)
  have HC4 : Hid (∀ x : Later W7, Calls Tryz.prog 10 #[] x.1 fun e w' => e = .returned (.bool true) ∧ Below x.1.heap.size x.1 w') := fun x => HFI.out x.1 (later7 x)
  have k1 : ∀ x : Later W7, (convert 33 9 (.slice x1 y1 z1)).run Tryz.prog x.1 = .ok (.string (strOfNums l)) x.1 := fun x => (HY.out.later x.2 rfl).conv
  have k2 : ∀ x : Later W7, (convert 33 9 vi).run Tryz.prog x.1 = .ok (.string (strOfNums l)) x.1 := fun x => (HVI.out x.1 (later7 x)).conv
  have f1 : ∀ x : Later W7, x.1.cell? ⟨g5, 3, none⟩ = some (.slice x1 y1 z1) := fun x => ((lrow r5.out x).cell 3).trans rfl
  have f2 : ∀ x : Later W7, x.1.cell? ⟨w.heap.size, 197, none⟩ = some vi := fun x => ((lrow r0.out x).cell 197).trans (sic_w b B br bi bo a A ar ai ao tk ex so vi r 3 _ rfl)
  generalize strOfNums l = sl at *
  have hne := later_nonempty W7
  have hkk : (kk == kk) = true := beq_self_eq_true _
  clear HRS HSB HSA HFI HVI BX BY HY later7
  refine wp_region_plain (x0 := Later.start W7) ?_
  iterate 2 (go_big_quiet_step (fail))
  (first | (go_big_quiet_want; refine quiet_load_agg 46 _ (by rfl) (w.heap.size) 0 (by rfl) (whc b B br bi bo) _ r0.out.lt (fun j v hv => (r0.out.cell (0 + j)).trans (sic_b b B br bi bo a A ar ai ao tk ex so vi r j v hv)) Tryz.underlying46 (by rfl) (info_whU ..) ?_; simp only [Act.put, List.setIfInBounds_toArray, List.set_cons_succ, List.set_cons_zero]; go_big_quiet_on) | (go_big_quiet_step (fail)))
  (go_big_quiet_step (fail))
  (first | (go_big_quiet_want; refine quiet_load_agg 46 _ (by rfl) (w.heap.size) 97 (by rfl) (whc a A ar ai ao) _ r0.out.lt (fun j v hv => (r0.out.cell (97 + j)).trans (sic_a b B br bi bo a A ar ai ao tk ex so vi r j v hv)) Tryz.underlying46 (by rfl) (info_whU ..) ?_; simp only [Act.put, List.setIfInBounds_toArray, List.set_cons_succ, List.set_cons_zero]; go_big_quiet_on) | (go_big_quiet_step (fail)))
  (go_big_quiet_step (fail))
  (first | (go_big_quiet_want; refine quiet_load_agg 50 _ (by rfl) (w.heap.size) 194 (by rfl) (woc tk ex so vi) _ r0.out.lt (fun j v hv => (r0.out.cell (194 + j)).trans (sic_w b B br bi bo a A ar ai ao tk ex so vi r j v hv)) Tryz.underlying50 (by rfl) (info_wo ..) ?_; simp only [Act.put, List.setIfInBounds_toArray, List.set_cons_succ, List.set_cons_zero]; go_big_quiet_on) | (go_big_quiet_step (fail)))
  (go_big_quiet_step (fail))
  (first | (go_big_quiet_want; refine quiet_load_agg 52 _ (by rfl) (w.heap.size) 198 (by rfl) (rwc r) _ r0.out.lt (fun j v hv => (r0.out.cell (198 + j)).trans (sic_r b B br bi bo a A ar ai ao tk ex so vi r j v hv)) Tryz.underlying52 (by rfl) (info_rw _) ?_; simp only [Act.put, List.setIfInBounds_toArray, List.set_cons_succ, List.set_cons_zero]; go_big_quiet_on) | (go_big_quiet_step (fail)))
  (go_big_quiet_step ((go_at_call 16; exact calls_later (HC1.out _))))
  iterate 2 (go_big_quiet_step (fail))
  (first | (go_big_quiet_want; refine quiet_load_agg 46 _ (by rfl) (gx) 0 (by rfl) (whc b B xr xi xo) _ rx.out.lt (lrow_cells rx.out) Tryz.underlying46 (by rfl) (info_whU ..) ?_; simp only [Act.put, List.setIfInBounds_toArray, List.set_cons_succ, List.set_cons_zero]; go_big_quiet_on) | (go_big_quiet_step (fail)))
  (go_big_quiet_step (fail))
  (first | (go_big_quiet_want; refine quiet_load_agg 46 _ (by rfl) (w.heap.size) 0 (by rfl) (whc b B br bi bo) _ r0.out.lt (fun j v hv => (r0.out.cell (0 + j)).trans (sic_b b B br bi bo a A ar ai ao tk ex so vi r j v hv)) Tryz.underlying46 (by rfl) (info_whU ..) ?_; simp only [Act.put, List.setIfInBounds_toArray, List.set_cons_succ, List.set_cons_zero]; go_big_quiet_on) | (go_big_quiet_step (fail)))
  (go_big_quiet_step ((go_at_call 14; exact calls_later (HC2.out _))))
  iterate 2 (go_big_quiet_step (fail))
  (first | (go_big_quiet_want; refine quiet_load_agg 46 _ (by rfl) (gy) 0 (by rfl) (whc a A yr yi yo) _ ry.out.lt (lrow_cells ry.out) Tryz.underlying46 (by rfl) (info_whU ..) ?_; simp only [Act.put, List.setIfInBounds_toArray, List.set_cons_succ, List.set_cons_zero]; go_big_quiet_on) | (go_big_quiet_step (fail)))
  (go_big_quiet_step (fail))
  (first | (go_big_quiet_want; refine quiet_load_agg 46 _ (by rfl) (w.heap.size) 97 (by rfl) (whc a A ar ai ao) _ r0.out.lt (fun j v hv => (r0.out.cell (97 + j)).trans (sic_a b B br bi bo a A ar ai ao tk ex so vi r j v hv)) Tryz.underlying46 (by rfl) (info_whU ..) ?_; simp only [Act.put, List.setIfInBounds_toArray, List.set_cons_succ, List.set_cons_zero]; go_big_quiet_on) | (go_big_quiet_step (fail)))
  (go_big_quiet_step ((go_at_call 14; exact calls_later (HC3.out _))))
  iterate 12 (go_big_quiet_step (fail))
  (go_big_quiet_step ((go_at_call 10; exact calls_later (HC4.out _))))
  iterate 2 (go_big_quiet_step (fail))
  refine wpQuiet_nil ?_
  rintro _ ⟨yq, rfl⟩
  go_wp2
  go_ret
  exact ⟨by first | done | rfl, BB.out.trans (yq.2.mono BB.out.size)⟩
section
variable {H : Type} {enc : TypeId × Value → H} {w : World} {base : Nat} {held : Bool}
theorem cellsRwS : Tryz.prog.cellsOf 52 = 16 := by kernel_rfl
set_option maxHeartbeats 4000000 in
theorem open_rwS {fuel : Nat} {cs : List Value} {y : DataW H × List MemPlace} (h : DataW.trod enc Tryz.prog w base (fun _ => true) held fuel 52 cs = some y) : ∃ x : Rw, cs = (rwc x).toList ∧ (Lit.int .i64 x.kd).wf = true := by
  obtain ⟨xs, n, _, rfl, hl, hlen, hf⟩ := DataW.trod_struct Tryz.underlying52 h
  rw [cellsRwS] at hl
  have k1 : Tryz.prog.cellsOf 3 = 1 := by kernel_rfl
  have k2 : Tryz.prog.cellsOf 23 = 1 := by kernel_rfl
  have k3 : Tryz.prog.cellsOf 42 = 1 := by kernel_rfl
  match cs, hl, xs, (show xs.length = 16 from hlen), hf with
  | [v0, v1, v2, v3, v4, v5, v6, v7, v8, v9, v10, v11, v12, v13, v14, v15], _, [y0, y1, y2, y3, y4, y5, y6, y7, y8, y9, y10, y11, y12, y13, y14, y15], _, hf =>
    have g0 : DataW.trod enc Tryz.prog w base (fun _ => true) held n 3 [v0] = some y0 := by
      have := hf 0 _ rfl
      simpa [k1] using this
    obtain ⟨i0, e0, _, w0⟩ := DataW.trod_int Tryz.underlying3 g0
    simp only [List.cons.injEq, and_true] at e0
    subst e0
    have g1 : DataW.trod enc Tryz.prog w base (fun _ => true) held n 3 [v1] = some y1 := by
      have := hf 1 _ rfl
      simpa [k1] using this
    obtain ⟨i1, e1, _, w1⟩ := DataW.trod_int Tryz.underlying3 g1
    simp only [List.cons.injEq, and_true] at e1
    subst e1
    have g2 : DataW.trod enc Tryz.prog w base (fun _ => true) held n 3 [v2] = some y2 := by
      have := hf 2 _ rfl
      simpa [k1] using this
    obtain ⟨i2, e2, _, w2⟩ := DataW.trod_int Tryz.underlying3 g2
    simp only [List.cons.injEq, and_true] at e2
    subst e2
    have g3 : DataW.trod enc Tryz.prog w base (fun _ => true) held n 23 [v3] = some y3 := by
      have := hf 3 _ rfl
      simpa [k2] using this
    obtain ⟨i3, e3, _, w3⟩ := DataW.trod_int Tryz.underlying23 g3
    simp only [List.cons.injEq, and_true] at e3
    subst e3
    obtain ⟨x3, rfl⟩ := n64_of w3
    have g4 : DataW.trod enc Tryz.prog w base (fun _ => true) held n 42 [v4] = some y4 := by
      have := hf 4 _ rfl
      simpa [k3] using this
    obtain ⟨i4, e4, _, w4⟩ := DataW.trod_int Tryz.underlying42 g4
    simp only [List.cons.injEq, and_true] at e4
    subst e4
    have g5 : DataW.trod enc Tryz.prog w base (fun _ => true) held n 3 [v5] = some y5 := by
      have := hf 5 _ rfl
      simpa [k1] using this
    obtain ⟨i5, e5, _, w5⟩ := DataW.trod_int Tryz.underlying3 g5
    simp only [List.cons.injEq, and_true] at e5
    subst e5
    have g6 : DataW.trod enc Tryz.prog w base (fun _ => true) held n 23 [v6] = some y6 := by
      have := hf 6 _ rfl
      simpa [k2] using this
    obtain ⟨i6, e6, _, w6⟩ := DataW.trod_int Tryz.underlying23 g6
    simp only [List.cons.injEq, and_true] at e6
    subst e6
    obtain ⟨x6, rfl⟩ := n64_of w6
    have g7 : DataW.trod enc Tryz.prog w base (fun _ => true) held n 23 [v7] = some y7 := by
      have := hf 7 _ rfl
      simpa [k2] using this
    obtain ⟨i7, e7, _, w7⟩ := DataW.trod_int Tryz.underlying23 g7
    simp only [List.cons.injEq, and_true] at e7
    subst e7
    obtain ⟨x7, rfl⟩ := n64_of w7
    have g8 : DataW.trod enc Tryz.prog w base (fun _ => true) held n 3 [v8] = some y8 := by
      have := hf 8 _ rfl
      simpa [k1] using this
    obtain ⟨i8, e8, _, w8⟩ := DataW.trod_int Tryz.underlying3 g8
    simp only [List.cons.injEq, and_true] at e8
    subst e8
    have g9 : DataW.trod enc Tryz.prog w base (fun _ => true) held n 23 [v9] = some y9 := by
      have := hf 9 _ rfl
      simpa [k2] using this
    obtain ⟨i9, e9, _, w9⟩ := DataW.trod_int Tryz.underlying23 g9
    simp only [List.cons.injEq, and_true] at e9
    subst e9
    obtain ⟨x9, rfl⟩ := n64_of w9
    have g10 : DataW.trod enc Tryz.prog w base (fun _ => true) held n 3 [v10] = some y10 := by
      have := hf 10 _ rfl
      simpa [k1] using this
    obtain ⟨i10, e10, _, w10⟩ := DataW.trod_int Tryz.underlying3 g10
    simp only [List.cons.injEq, and_true] at e10
    subst e10
    have g11 : DataW.trod enc Tryz.prog w base (fun _ => true) held n 23 [v11] = some y11 := by
      have := hf 11 _ rfl
      simpa [k2] using this
    obtain ⟨i11, e11, _, w11⟩ := DataW.trod_int Tryz.underlying23 g11
    simp only [List.cons.injEq, and_true] at e11
    subst e11
    obtain ⟨x11, rfl⟩ := n64_of w11
    have g12 : DataW.trod enc Tryz.prog w base (fun _ => true) held n 3 [v12] = some y12 := by
      have := hf 12 _ rfl
      simpa [k1] using this
    obtain ⟨i12, e12, _, w12⟩ := DataW.trod_int Tryz.underlying3 g12
    simp only [List.cons.injEq, and_true] at e12
    subst e12
    have g13 : DataW.trod enc Tryz.prog w base (fun _ => true) held n 23 [v13] = some y13 := by
      have := hf 13 _ rfl
      simpa [k2] using this
    obtain ⟨i13, e13, _, w13⟩ := DataW.trod_int Tryz.underlying23 g13
    simp only [List.cons.injEq, and_true] at e13
    subst e13
    obtain ⟨x13, rfl⟩ := n64_of w13
    have g14 : DataW.trod enc Tryz.prog w base (fun _ => true) held n 23 [v14] = some y14 := by
      have := hf 14 _ rfl
      simpa [k2] using this
    obtain ⟨i14, e14, _, w14⟩ := DataW.trod_int Tryz.underlying23 g14
    simp only [List.cons.injEq, and_true] at e14
    subst e14
    obtain ⟨x14, rfl⟩ := n64_of w14
    have g15 : DataW.trod enc Tryz.prog w base (fun _ => true) held n 3 [v15] = some y15 := by
      have := hf 15 _ rfl
      simpa [k1] using this
    obtain ⟨i15, e15, _, w15⟩ := DataW.trod_int Tryz.underlying3 g15
    simp only [List.cons.injEq, and_true] at e15
    subst e15
    exact ⟨⟨i0, i1, i2, x3, i4, i5, x6, x7, i8, x9, i10, x11, i12, x13, x14, i15⟩, rfl, w1⟩
theorem cellsWo : Tryz.prog.cellsOf 50 = 4 := by kernel_rfl
theorem cellsSi : Tryz.prog.cellsOf 54 = 214 := by kernel_rfl
theorem open_wo {fuel : Nat} {cs : List Value} {y : DataW H × List MemPlace} (h : DataW.trod enc Tryz.prog w base (fun _ => true) held fuel 50 cs = some y) (hz : ∀ q ∈ y.1.weights Tryz.prog 50, q ≤ reachBytes) : ∃ (tk ex so : Bool) (vi : Value) (l : List Int), cs = (woc tk ex so vi).toList ∧ vi.oneCell' = true ∧ Byt w vi l ∧ l.length ≤ 140737488351232 := by
  obtain ⟨xs, n, _, rfl, hl, hlen, hf⟩ := DataW.trod_struct Tryz.underlying50 h
  rw [cellsWo] at hl
  have k1 : Tryz.prog.cellsOf 4 = 1 := by kernel_rfl
  have k2 : Tryz.prog.cellsOf 33 = 1 := by kernel_rfl
  match cs, hl, xs, (show xs.length = 4 from hlen), hf, hz with
  | [v0, v1, v2, v3], _, [y0, y1, y2, y3], _, hf, hz =>
    have g0 : DataW.trod enc Tryz.prog w base (fun _ => true) held n 4 [v0] = some y0 := by
      have := hf 0 _ rfl
      simpa [k1] using this
    have g1 : DataW.trod enc Tryz.prog w base (fun _ => true) held n 4 [v1] = some y1 := by
      have := hf 1 _ rfl
      simpa [k1] using this
    have g2 : DataW.trod enc Tryz.prog w base (fun _ => true) held n 4 [v2] = some y2 := by
      have := hf 2 _ rfl
      simpa [k1] using this
    have g3 : DataW.trod enc Tryz.prog w base (fun _ => true) held n 33 [v3] = some y3 := by
      have := hf 3 _ rfl
      simpa [k2] using this
    have z3 : ∀ q ∈ y3.1.weights Tryz.prog 33, q ≤ reachBytes := fun q hq => hz q (by
      simp only [DataW.weights, Tryz.underlying50]
      exact DataW.weights_mem_each (j := 3) (t := 33) (d := y3.1) rfl rfl q hq)
    obtain ⟨t0, e0, -⟩ := DataW.trod_bool Tryz.underlying4 g0
    obtain ⟨t1, e1, -⟩ := DataW.trod_bool Tryz.underlying4 g1
    obtain ⟨t2, e2, -⟩ := DataW.trod_bool Tryz.underlying4 g2
    simp only [List.cons.injEq, and_true] at e0 e1 e2
    subst e0 e1 e2
    obtain ⟨ub, au, cu, hue, hB0, -, hbl⟩ := open_bytes g3 z3
    refine ⟨t0, t1, t2, v3, ub, rfl, by rw [hue]; rfl, by rw [hue]; exact hB0, hbl⟩
theorem open_sight {fuel : Nat} {cs : List Value} {y : DataW H × List MemPlace} (h : DataW.trod enc Tryz.prog w base (fun _ => true) held fuel 54 cs = some y) (hz : ∀ q ∈ y.1.weights Tryz.prog 54, q ≤ reachBytes) :
    ∃ (b : Cp) (B : St) (br bi bo : Value) (a : Cp) (A : St) (ar ai ao : Value) (tk ex so : Bool) (vi : Value) (r : Rw) (l : List Int), cs = (sic b B br bi bo a A ar ai ao tk ex so vi r).toList ∧ Bs B br bi bo w ∧ Bs A ar ai ao w ∧ StW B ∧ StW A ∧ (B.ram.length ≤ 140737488351232 ∧ B.inp.length ≤ 140737488351232 ∧ B.out.length ≤ 140737488351232) ∧ (A.ram.length ≤ 140737488351232 ∧ A.inp.length ≤ 140737488351232 ∧ A.out.length ≤ 140737488351232) ∧ (whc b B br bi bo).all (·.oneCell') = true ∧ (whc a A ar ai ao).all (·.oneCell') = true ∧ vi.oneCell' = true ∧ Byt w vi l ∧ l.length ≤ 140737488351232 := by
  obtain ⟨xs, n, _, rfl, hl, hlen, hf⟩ := DataW.trod_struct Tryz.underlying54 h
  rw [cellsSi] at hl
  match xs, (show xs.length = 4 from hlen), hf, hz with
  | [y0, y1, y2, y3], _, hf, hz =>
    have g0 : DataW.trod enc Tryz.prog w base (fun _ => true) held n 46 ((cs.drop 0).take 97) = some y0 := by
      have := hf 0 _ rfl
      simpa [cellsWh] using this
    have g1 : DataW.trod enc Tryz.prog w base (fun _ => true) held n 46 ((cs.drop 97).take 97) = some y1 := by
      have := hf 1 _ rfl
      simpa [cellsWh] using this
    have g2 : DataW.trod enc Tryz.prog w base (fun _ => true) held n 50 ((cs.drop 194).take 4) = some y2 := by
      have := hf 2 _ rfl
      simpa [cellsWo] using this
    have g3 : DataW.trod enc Tryz.prog w base (fun _ => true) held n 52 ((cs.drop 198).take 16) = some y3 := by
      have := hf 3 _ rfl
      simpa [cellsRwS] using this
    have z0 : ∀ q ∈ y0.1.weights Tryz.prog 46, q ≤ reachBytes := fun q hq => hz q (by
      simp only [DataW.weights, Tryz.underlying54]
      exact DataW.weights_mem_each (j := 0) (t := 46) (d := y0.1) rfl rfl q hq)
    have z1 : ∀ q ∈ y1.1.weights Tryz.prog 46, q ≤ reachBytes := fun q hq => hz q (by
      simp only [DataW.weights, Tryz.underlying54]
      exact DataW.weights_mem_each (j := 1) (t := 46) (d := y1.1) rfl rfl q hq)
    have z2 : ∀ q ∈ y2.1.weights Tryz.prog 50, q ≤ reachBytes := fun q hq => hz q (by
      simp only [DataW.weights, Tryz.underlying54]
      exact DataW.weights_mem_each (j := 2) (t := 50) (d := y2.1) rfl rfl q hq)
    obtain ⟨b, B, x1, x2, x3, c1, c2, c3, e0, p0, s0, l1, l2, l3⟩ := open_whole g0 z0
    obtain ⟨a, A, x4, x5, x6, c4, c5, c6, e1, p1, s1, m1, m2, m3⟩ := open_whole g1 z1
    obtain ⟨tk, ex, so, vi, l, e2, oi, hv, hvl⟩ := open_wo g2 z2
    obtain ⟨r, e3, -⟩ := open_rwS g3
    refine ⟨b, B, _, _, _, a, A, _, _, _, tk, ex, so, vi, r, l, ?_, p0, p1, s0, s1, ⟨l1, l2, l3⟩, ⟨m1, m2, m3⟩, whc_ones _ _ _ _ _ _ _ _ _ _ _, whc_ones _ _ _ _ _ _ _ _ _ _ _, oi, hv, hvl⟩
    have e : cs = (cs.drop 0).take 97 ++ ((cs.drop 97).take 97 ++ ((cs.drop 194).take 4 ++ (cs.drop 198).take 16)) := by
      have q5 : (cs.drop 198).take 16 = cs.drop 198 := List.take_of_length_le (by rw [List.length_drop, hl]; omega)
      have s4 : (cs.drop 194).take 4 ++ cs.drop 198 = cs.drop 194 := by rw [show cs.drop 198 = (cs.drop 194).drop 4 by rw [List.drop_drop], List.take_append_drop]
      have s3 : (cs.drop 97).take 97 ++ cs.drop 194 = cs.drop 97 := by rw [show cs.drop 194 = (cs.drop 97).drop 97 by rw [List.drop_drop], List.take_append_drop]
      rw [q5, s4, s3, List.drop_zero, List.take_append_drop]
    rw [e, e0, e1, e2, e3]
    unfold sic
    simp only [Array.toList_append]
theorem open_sight1 {b0 : Nat} {v : Value} {d : DataW H} {p : List MemPlace} (hv : Value.okWide Tryz.prog w .any b0 54 v) (h : DataW.Trod enc Tryz.prog w base (fun _ => true) held 54 v d p) (hz : ∀ q ∈ d.weights Tryz.prog 54, q ≤ reachBytes) :
    ∃ (b : Cp) (B : St) (br bi bo : Value) (a : Cp) (A : St) (ar ai ao : Value) (tk ex so : Bool) (vi : Value) (r : Rw) (l : List Int), v = .agg (sic b B br bi bo a A ar ai ao tk ex so vi r) ∧ Bs B br bi bo w ∧ Bs A ar ai ao w ∧ StW B ∧ StW A ∧ (B.ram.length ≤ 140737488351232 ∧ B.inp.length ≤ 140737488351232 ∧ B.out.length ≤ 140737488351232) ∧ (A.ram.length ≤ 140737488351232 ∧ A.inp.length ≤ 140737488351232 ∧ A.out.length ≤ 140737488351232) ∧ (whc b B br bi bo).all (·.oneCell') = true ∧ (whc a A ar ai ao).all (·.oneCell') = true ∧ vi.oneCell' = true ∧ Byt w vi l ∧ l.length ≤ 140737488351232 := by
  obtain ⟨cs, rfl, _⟩ := okWide_struct Tryz.underlying54 hv
  obtain ⟨fuel, hf⟩ := h
  obtain ⟨b, B, br, bi, bo, a, A, ar, ai, ao, tk, ex, so, vi, r, l, e, h1⟩ := open_sight hf hz
  refine ⟨b, B, br, bi, bo, a, A, ar, ai, ao, tk, ex, so, vi, r, l, ?_, h1⟩
  cases cs
  simpa [Value.cells] using congrArg List.toArray e
end
end Go.Proofs.YtidfndgedopghaaGreatDoor
namespace Go.Proofs.YtidfndgedopghaaGreatDoor
set_option linter.unusedVariables false
open Go.ChangeShapes Go.WideShapes Go.ChangeAt Go.RowKit Go.Deep Go.Lib Go.Shelf
theorem tab_eq : (Rows.laid_math_bits_deBruijn64tab : DataW Unit) = tabData .u8 (Lib.deBruijn64tab.map Int.ofNat) := by kernel_rfl
theorem tb_of_reads {W : World} (h : VarReads Tryz.prog W "math/bits.deBruijn64tab" (Rows.laid_math_bits_deBruijn64tab : DataW Unit)) : Tb W := by
  rw [tab_eq] at h
  obtain ⟨g', t', cs, fuel, p, hg', ht', hvar, hd⟩ := h
  obtain rfl := Option.some.inj ((show Tryz.prog.globalNamed "math/bits.deBruijn64tab" = some 0 by kernel_rfl).symm.trans hg')
  obtain rfl := Option.some.inj ((show (Tryz.prog.globals[0]?).map (·.type) = some 137 by kernel_rfl).symm.trans ht')
  have hc := cells_of_tab Tryz.underlying137 Tryz.underlying5 (by kernel_rfl) (by kernel_rfl) hd
  intro j hj
  have hh : ∃ t fr, W.heap[0]? = some (.cells cs t fr) := by
    unfold World.var? at hvar
    rw [hg'] at hvar
    simp only [Option.bind_some] at hvar
    split at hvar
    · rename_i c1 t1 fr1 hq
      simp only [Option.some.injEq] at hvar
      subst hvar
      exact ⟨t1, fr1, hq⟩
    · cases hvar
  obtain ⟨t, fr, hh⟩ := hh
  rw [cell_of_row W 0 j cs t fr hh, ← Array.getElem?_toList, hc, List.getElem?_map, List.getElem?_map, List.getElem?_eq_getElem (show j < Lib.deBruijn64tab.length from hj)]
  simp [List.getD, List.getElem?_eq_getElem (show j < Lib.deBruijn64tab.length from hj)]
end Go.Proofs.YtidfndgedopghaaGreatDoor
