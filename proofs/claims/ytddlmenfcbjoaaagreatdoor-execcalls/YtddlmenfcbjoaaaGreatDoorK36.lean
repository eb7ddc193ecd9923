import Derived.Test.YtddlmenfcbjoaaaGreatDoorK08
import Derived.Test.YtddlmenfcbjoaaaGreatDoorK14
import Derived.Test.YtddlmenfcbjoaaaGreatDoorK21
import Derived.Carry
namespace Go.Proofs.YtddlmenfcbjoaaaGreatDoor
set_option linter.unusedVariables false
set_option maxRecDepth 100000
set_option maxHeartbeats 8000000
open Go.MuLone Go.ChangeShapes Go.WideShapes Go.ChangeAt Go.RowKit Go.Deep _root_.Go.Proofs.Tryz
theorem n32_wf (x : BitVec 32) : (Lit.int .u32 (n32 x)).wf = true := WalkArith.wf_u32 ⟨by unfold n32; omega, by unfold n32; have := x.isLt; omega⟩
theorem JH {n : Int} (h : (Lit.int .u32 n).wf = true) : ∃ x : BitVec 32, n = n32 x := by
 have hb := bounds_u32 h
 exact ⟨BitVec.ofNat 32 n.toNat, by unfold n32; rw [ZqR]; omega⟩
section
variable {H : Type} {enc : TypeId × Value → H} {w : World} {base : Nat} {held : Bool}
theorem JT {fuel : Nat} {cs : List Value} {y : DataW H × List MemPlace} (h : DataW.trod enc prog w base (fun _ => true) held fuel 48 cs = some y) : ∃ i : Ins, cs = (inc i).toList ∧ I64 i.im := by
 obtain ⟨xs, n, _, rfl, hl, hlen, hf⟩ := DataW.trod_struct underlying48 h
 rw [show prog.cellsOf 48 = 9 by kernel_rfl] at hl
 match xs, (show xs.length = 9 from hlen), hf with
 | [y0, y1, y2, y3, y4, y5, y6, y7, y8], _, hf =>
  have g0 : DataW.trod enc prog w base (fun _ => true) held n 3 ((cs.drop 0).take 1) = some y0 := by
   have := hf 0 _ rfl
   have this : DataW.trod enc prog w base (fun _ => true) held n 3 ((cs.drop 0).take (prog.cellsOf 3)) = some y0 := this
   rwa [show prog.cellsOf 3 = 1 by kernel_rfl] at this
  obtain ⟨v0, e0, _, w0⟩ := ZqI underlying3 g0
  have g1 : DataW.trod enc prog w base (fun _ => true) held n 3 ((cs.drop 1).take 1) = some y1 := by
   have := hf 1 _ rfl
   have this : DataW.trod enc prog w base (fun _ => true) held n 3 ((cs.drop 1).take (prog.cellsOf 3)) = some y1 := this
   rwa [show prog.cellsOf 3 = 1 by kernel_rfl] at this
  obtain ⟨v1, e1, _, w1⟩ := ZqI underlying3 g1
  have g2 : DataW.trod enc prog w base (fun _ => true) held n 3 ((cs.drop 2).take 1) = some y2 := by
   have := hf 2 _ rfl
   have this : DataW.trod enc prog w base (fun _ => true) held n 3 ((cs.drop 2).take (prog.cellsOf 3)) = some y2 := this
   rwa [show prog.cellsOf 3 = 1 by kernel_rfl] at this
  obtain ⟨v2, e2, _, w2⟩ := ZqI underlying3 g2
  have g3 : DataW.trod enc prog w base (fun _ => true) held n 3 ((cs.drop 3).take 1) = some y3 := by
   have := hf 3 _ rfl
   have this : DataW.trod enc prog w base (fun _ => true) held n 3 ((cs.drop 3).take (prog.cellsOf 3)) = some y3 := this
   rwa [show prog.cellsOf 3 = 1 by kernel_rfl] at this
  obtain ⟨v3, e3, _, w3⟩ := ZqI underlying3 g3
  have g4 : DataW.trod enc prog w base (fun _ => true) held n 2 ((cs.drop 4).take 1) = some y4 := by
   have := hf 4 _ rfl
   have this : DataW.trod enc prog w base (fun _ => true) held n 2 ((cs.drop 4).take (prog.cellsOf 2)) = some y4 := this
   rwa [show prog.cellsOf 2 = 1 by kernel_rfl] at this
  obtain ⟨v4, e4, _, w4⟩ := ZqI underlying2 g4
  have g5 : DataW.trod enc prog w base (fun _ => true) held n 4 ((cs.drop 5).take 1) = some y5 := by
   have := hf 5 _ rfl
   have this : DataW.trod enc prog w base (fun _ => true) held n 4 ((cs.drop 5).take (prog.cellsOf 4)) = some y5 := this
   rwa [show prog.cellsOf 4 = 1 by kernel_rfl] at this
  obtain ⟨v5, e5, _⟩ := DataW.trod_bool underlying4 g5
  have g6 : DataW.trod enc prog w base (fun _ => true) held n 4 ((cs.drop 6).take 1) = some y6 := by
   have := hf 6 _ rfl
   have this : DataW.trod enc prog w base (fun _ => true) held n 4 ((cs.drop 6).take (prog.cellsOf 4)) = some y6 := this
   rwa [show prog.cellsOf 4 = 1 by kernel_rfl] at this
  obtain ⟨v6, e6, _⟩ := DataW.trod_bool underlying4 g6
  have g7 : DataW.trod enc prog w base (fun _ => true) held n 3 ((cs.drop 7).take 1) = some y7 := by
   have := hf 7 _ rfl
   have this : DataW.trod enc prog w base (fun _ => true) held n 3 ((cs.drop 7).take (prog.cellsOf 3)) = some y7 := this
   rwa [show prog.cellsOf 3 = 1 by kernel_rfl] at this
  obtain ⟨v7, e7, _, w7⟩ := ZqI underlying3 g7
  have g8 : DataW.trod enc prog w base (fun _ => true) held n 33 ((cs.drop 8).take 1) = some y8 := by
   have := hf 8 _ rfl
   have this : DataW.trod enc prog w base (fun _ => true) held n 33 ((cs.drop 8).take (prog.cellsOf 33)) = some y8 := this
   rwa [show prog.cellsOf 33 = 1 by kernel_rfl] at this
  obtain ⟨v8, e8, _, w8⟩ := ZqI underlying33 g8
  obtain ⟨r, rfl⟩ := JH w8
  refine ⟨⟨v0, v1, v2, v3, v4, v5, v6, v7, r⟩, ?_, bounds_i64 w4⟩
  have q : ∀ j, j < 9 → cs.drop j = (cs.drop j).take 1 ++ cs.drop (j + 1) := fun j hj => by
   rw [← List.drop_drop, List.take_append_drop]
  have q0 : cs = cs.drop 0 := rfl
  rw [q0, q 0 (by omega), e0, q 1 (by omega), e1, q 2 (by omega), e2, q 3 (by omega), e3, q 4 (by omega), e4, q 5 (by omega), e5, q 6 (by omega), e6, q 7 (by omega), e7, q 8 (by omega), e8, List.drop_eq_nil_of_le (by omega)]
  simp [inc]
theorem open_ins1 {b0 : Nat} {v : Value} {d : DataW H} {p : List MemPlace} (hv : Value.okWide prog w .any b0 48 v) (h : DataW.Trod enc prog w base (fun _ => true) held 48 v d p) : ∃ i : Ins, v = .agg (inc i) ∧ I64 i.im := by
 obtain ⟨cs, rfl, _⟩ := okWide_struct underlying48 hv
 obtain ⟨fuel, hf⟩ := h
 obtain ⟨i, e, hi⟩ := JT hf
 refine ⟨i, ?_, hi⟩
 cases cs
 simpa [Value.cells] using congrArg List.toArray e
theorem TW {b0 : Nat} {v : Value} {d : DataW H} {p : List MemPlace} (hv : Value.okWide prog w .any b0 35 v) (h : DataW.Trod enc prog w base (fun _ => true) held 35 v d p) (hz : ∀ q ∈ d.weights prog 35, q ≤ reachBytes) : ∃ (S : St) (ar ai ao : Option Addr) (cr ci co : Nat), v = .agg (stc S (.slice ar S.ram.length cr) (.slice ai S.inp.length ci) (.slice ao S.out.length co)) ∧ Bs S (.slice ar S.ram.length cr) (.slice ai S.inp.length ci) (.slice ao S.out.length co) w ∧ StW S ∧ S.ram.length ≤ 140737488355328 ∧ S.inp.length ≤ 140737488355328 ∧ S.out.length ≤ 140737488355328 := by
 obtain ⟨cs, rfl, _⟩ := okWide_struct underlying35 hv
 obtain ⟨fuel, hf⟩ := h
 obtain ⟨S, ar, ai, ao, cr, ci, co, hS, hBs, hW, l1, l2, l3⟩ := yH hf hz
 refine ⟨S, ar, ai, ao, cr, ci, co, ?_, hBs, hW, by omega, by omega, by omega⟩
 cases cs
 simpa [Value.cells] using congrArg List.toArray hS
end
section
variable {H : Type} {enc : TypeId × Value → H} {P : Program} {w : World} {base : Nat} {spare : Nat → Bool} {held : Bool}
theorem UC {t0 t1 t2 t3 t4 t5 : TypeId} {args : Array Value} {ds : List (DataW H)} {ps : List MemPlace} (h : DataW.TrodAll enc P w base spare held [t0, t1, t2, t3, t4, t5] args.toList ds ps) :
  ∃ v0 v1 v2 v3 v4 v5 d0 d1 d2 d3 d4 d5 p0 p1 p2 p3 p4 p5, args = #[v0, v1, v2, v3, v4, v5] ∧ ds = [d0, d1, d2, d3, d4, d5] ∧ ps = p0 ++ (p1 ++ (p2 ++ (p3 ++ (p4 ++ p5)))) ∧ DataW.Trod enc P w base spare held t0 v0 d0 p0 ∧ DataW.Trod enc P w base spare held t1 v1 d1 p1 ∧ DataW.Trod enc P w base spare held t2 v2 d2 p2 ∧ DataW.Trod enc P w base spare held t3 v3 d3 p3 ∧ DataW.Trod enc P w base spare held t4 v4 d4 p4 ∧ DataW.Trod enc P w base spare held t5 v5 d5 p5 := by
 obtain ⟨v0, vs0, d0, ds0, p0, q0, hargs, rfl, rfl, h0, r0⟩ := trodAll_cons h
 obtain ⟨v1, vs1, d1, ds1, p1, q1, rfl, rfl, rfl, h1, r1⟩ := trodAll_cons r0
 obtain ⟨v2, vs2, d2, ds2, p2, q2, rfl, rfl, rfl, h2, r2⟩ := trodAll_cons r1
 obtain ⟨v3, vs3, d3, ds3, p3, q3, rfl, rfl, rfl, h3, r3⟩ := trodAll_cons r2
 obtain ⟨v4, vs4, d4, ds4, p4, q4, rfl, rfl, rfl, h4, r4⟩ := trodAll_cons r3
 obtain ⟨v5, vs5, d5, ds5, p5, q5, rfl, rfl, rfl, h5, r5⟩ := trodAll_cons r4
 obtain ⟨rfl, rfl, rfl⟩ := trodAll_nil r5
 exact ⟨v0, v1, v2, v3, v4, v5, d0, d1, d2, d3, d4, d5, p0, p1, p2, p3, p4, p5, by cases args; simp_all, rfl, by simp, h0, h1, h2, h3, h4, h5⟩
theorem UB {t0 t1 t2 t3 t4 t5 : TypeId} {v0 v1 v2 v3 v4 v5 : Value} {d0 d1 d2 d3 d4 d5 : DataW H} {p0 p1 p2 p3 p4 p5 : List MemPlace} (h0 : DataW.Trod enc P w base spare held t0 v0 d0 p0) (h1 : DataW.Trod enc P w base spare held t1 v1 d1 p1) (h2 : DataW.Trod enc P w base spare held t2 v2 d2 p2) (h3 : DataW.Trod enc P w base spare held t3 v3 d3 p3) (h4 : DataW.Trod enc P w base spare held t4 v4 d4 p4) (h5 : DataW.Trod enc P w base spare held t5 v5 d5 p5) :
  DataW.TrodAll enc P w base spare held [t0, t1, t2, t3, t4, t5] [v0, v1, v2, v3, v4, v5] [d0, d1, d2, d3, d4, d5] (p0 ++ (p1 ++ (p2 ++ (p3 ++ (p4 ++ p5))))) := ⟨p0, _, h0, ⟨p1, _, h1, ⟨p2, _, h2, ⟨p3, _, h3, ⟨p4, _, h4, trodAll_mk1 h5, rfl⟩, rfl⟩, rfl⟩, rfl⟩, rfl⟩
end
end Go.Proofs.YtddlmenfcbjoaaaGreatDoor
