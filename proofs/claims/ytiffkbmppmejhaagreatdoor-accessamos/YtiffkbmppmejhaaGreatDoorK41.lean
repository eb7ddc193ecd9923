import Derived.Test.YtiffkbmppmejhaaGreatDoorK39
import Derived.Test.YtiffkbmppmejhaaGreatDoorK40
import Derived.Test.YtiffkbmppmejhaaGreatDoorK09
import Derived.Test.YtiffkbmppmejhaaGreatDoorK18
import Derived.Test.YtiffkbmppmejhaaGreatDoorK31
import Derived.Test.YtiffkbmppmejhaaGreatDoorK34
import Derived.Test.YtiffkbmppmejhaaGreatDoorK38
namespace Go.Proofs.YtiffkbmppmejhaaGreatDoor
set_option linter.unusedVariables false
set_option maxRecDepth 100000
set_option maxHeartbeats 8000000
open Go.ChangeShapes Go.WideShapes Go.ChangeAt Go.RowKit Go.Deep _root_.Go.Proofs.Tryz
theorem MX {B c : Nat} {S : St} {vr vi vo : Value} (w : World) (h : RB B c S vr vi vo w) (hs : Sok S) (k : Cp) (a : Acd) :
  Calls prog 14 #[.agg (cpc k), .pointer (some ⟨c, 0, none⟩), .agg (acc a)] w fun e w' => e = .returned (.agg (otc (DO S k a).1)) ∧ ∃ ur ui uo, RSt B c vr vi vo w ur ui uo (DO S k a).2 w' := by
 by_cases hq : a.kd = 4 ∨ a.kd = 5 ∨ a.kd = 6
 ·exact MW w h hs k a hq
 exact MU w h hs k a (fun e => hq (.inl e)) (fun e => hq (.inr (.inl e))) (fun e => hq (.inr (.inr e)))
section
variable {H : Type} {enc : TypeId × Value → H} {w : World} {base : Nat} {held : Bool}
theorem nM : prog.cellsOf 55 = 5 := by kernel_rfl
theorem vP : prog.bytesOf 55 = 40 := by kernel_rfl
theorem zW {fuel : Nat} {cs : List Value} {y : DataW H × List MemPlace} (h : DataW.trod enc prog w base (fun _ => true) held fuel 55 cs = some y) : ∃ x : Acd, cs = (acc x).toList := by
 obtain ⟨xs, n, _, rfl, hl, hlen, hf⟩ := DataW.trod_struct underlying55 h
 rw [nM] at hl
 match cs, hl, xs, (show xs.length = 5 from hlen), hf with
 | [v0, v1, v2, v3, v4], _, [y0, y1, y2, y3, y4], _, hf =>
  have g0 : DataW.trod enc prog w base (fun _ => true) held n 3 [v0] = some y0 := by
   have := hf 0 _ rfl
   simpa [show prog.cellsOf 3 = 1 by kernel_rfl] using this
  have g1 : DataW.trod enc prog w base (fun _ => true) held n 3 [v1] = some y1 := by
   have := hf 1 _ rfl
   simpa [show prog.cellsOf 3 = 1 by kernel_rfl] using this
  have g2 : DataW.trod enc prog w base (fun _ => true) held n 3 [v2] = some y2 := by
   have := hf 2 _ rfl
   simpa [show prog.cellsOf 3 = 1 by kernel_rfl] using this
  have g3 : DataW.trod enc prog w base (fun _ => true) held n 22 [v3] = some y3 := by
   have := hf 3 _ rfl
   simpa [show prog.cellsOf 22 = 1 by kernel_rfl] using this
  have g4 : DataW.trod enc prog w base (fun _ => true) held n 22 [v4] = some y4 := by
   have := hf 4 _ rfl
   simpa [show prog.cellsOf 22 = 1 by kernel_rfl] using this
  obtain ⟨i0, e0, _, w0⟩ := DataW.trod_int underlying3 g0
  simp only [List.cons.injEq, and_true] at e0
  subst e0
  obtain ⟨i1, e1, _, w1⟩ := DataW.trod_int underlying3 g1
  simp only [List.cons.injEq, and_true] at e1
  subst e1
  obtain ⟨i2, e2, _, w2⟩ := DataW.trod_int underlying3 g2
  simp only [List.cons.injEq, and_true] at e2
  subst e2
  obtain ⟨i3, e3, _, w3⟩ := DataW.trod_int underlying22 g3
  simp only [List.cons.injEq, and_true] at e3
  subst e3
  obtain ⟨x3, rfl⟩ := dB w3
  obtain ⟨i4, e4, _, w4⟩ := DataW.trod_int underlying22 g4
  simp only [List.cons.injEq, and_true] at e4
  subst e4
  obtain ⟨x4, rfl⟩ := dB w4
  exact ⟨⟨i0, i1, i2, x3, x4⟩, rfl⟩
theorem wO {fuel : Nat} {v : Value} {y : DataW H × List MemPlace} (h : DataW.trod enc prog w base (fun _ => true) held fuel 36 [v] = some y) (hz : ∀ q ∈ y.1.weights prog 36, q ≤ reachBytes) :
  ∃ O : List Acd, pL w v O ∧ O.length * 40 ≤ 140737488351232 := by
 rcases DataW.trod_slice underlying36 h with ⟨e, _⟩ | ⟨a, len, cap, elems, rest, n, _, e, hy, _, hl, hm, hel, hc, _, _⟩
 ·simp at e
  subst e
  exact ⟨[], ⟨none, 0, rfl, Nat.le_refl _, fun hn => absurd rfl hn⟩, by simp⟩
 ·simp at e
  subst e
  have hlen : len * 40 ≤ reachBytes := by
   have hmem : (elems.length + rest.length) * 40 ∈ y.1.weights prog 36 := by
    rw [hy]; simp [DataW.weights, underlying36, vP]
   have := hz _ hmem
   omega
  have each : ∀ i, i < len → ∃ x : Acd, (∀ c, c < 5 → w.cell? ((a.add (i * 5)).add c) = (acc x)[c]?) := by
   intro i hi
   have hci := hc i hi
   rw [nM] at hci
   have hei : ∃ z, elems[i]? = some z := ⟨elems[i]'(by omega), List.getElem?_eq_getElem (by omega)⟩
   obtain ⟨z, hzz⟩ := hei
   rw [hzz] at hci
   obtain ⟨cs, hcs, ht⟩ := Option.bind_eq_some_iff.1 hci
   obtain ⟨x, hx⟩ := zW ht
   obtain ⟨_, _, hcell⟩ := World.cells?_some hcs
   exact ⟨x, fun c hc' => by rw [hcell c hc', hx, Array.getElem?_toList]⟩
  obtain ⟨O, hLl, hLp⟩ := qF (⟨0, 0, 0, 0#64, 0#64⟩ : Acd) len each
  subst hLl
  refine ⟨O, ⟨some a, cap, rfl, hl, fun hne => ?_⟩, by simp only [reachBytes] at hlen; omega⟩
  have hpos : 0 < O.length := List.length_pos_iff.2 hne
  obtain ⟨b, off, spot⟩ := a
  have hc0 := (hLp 0 hpos) 0 (by omega)
  have hsp : (((⟨b, off, spot⟩ : Addr).add (0 * 5)).add 0).spot = none := World.cell?_spot (v := .int .i64 (O.getD 0 ⟨0, 0, 0, 0#64, 0#64⟩).kd) hc0
  have hspot : spot = none := by simpa [Addr.add] using hsp
  subst hspot
  have hadd : ∀ (x y : Nat), (⟨b, x, none⟩ : Addr).add y = ⟨b, x + y, none⟩ := fun x y => by unfold Addr.add; split <;> simp_all
  have hc0' : w.cell? ⟨b, off, none⟩ = some (.int .i64 (O.getD 0 ⟨0, 0, 0, 0#64, 0#64⟩).kd) := by
   have := hc0; rw [hadd, hadd] at this; simpa [acc] using this
  refine ⟨b, off, rfl, World.block_lt_of_cell? w _ hc0', fun j hj c hc' => ?_⟩
  have := (hLp j hj) c hc'; rw [hadd, hadd] at this; exact this
theorem yJ : prog.cellsOf 38 = 98 := by kernel_rfl
theorem vQ : prog.cellsOf 36 = 1 := by kernel_rfl
theorem NC {fuel : Nat} {cs : List Value} {y : DataW H × List MemPlace} (h : DataW.trod enc prog w base (fun _ => true) held fuel 38 cs = some y) (hz : ∀ q ∈ y.1.weights prog 38, q ≤ reachBytes) :
  ∃ (K : Cp) (S : St) (ar ai ao : Option Addr) (cr ci co : Nat) (va : Value) (O : List Acd), cs = (scc K S (.slice ar S.ram.length cr) (.slice ai S.inp.length ci) (.slice ao S.out.length co) va).toList ∧ Bs S (.slice ar S.ram.length cr) (.slice ai S.inp.length ci) (.slice ao S.out.length co) w ∧ StW S ∧
   S.ram.length ≤ 140737488355328 ∧ S.inp.length ≤ 140737488355328 ∧ S.out.length ≤ 140737488355328 ∧ pL w va O ∧ O.length ≤ 140737488355328 := by
 obtain ⟨xs, n, _, rfl, hl, hlen, hf⟩ := DataW.trod_struct underlying38 h
 rw [yJ] at hl
 match xs, (show xs.length = 3 from hlen), hf, hz with
 | [y0, y1, y2], _, hf, hz =>
  have g0 : DataW.trod enc prog w base (fun _ => true) held n 31 (cs.take 82) = some y0 := by
   have := hf 0 _ rfl
   simpa [nN] using this
  have g1 : DataW.trod enc prog w base (fun _ => true) held n 35 ((cs.drop 82).take 15) = some y1 := by
   have := hf 1 _ rfl
   simpa [uB] using this
  have g2 : DataW.trod enc prog w base (fun _ => true) held n 36 ((cs.drop 97).take 1) = some y2 := by
   have := hf 2 _ rfl
   simpa [vQ] using this
  have z1 : ∀ q ∈ y1.1.weights prog 35, q ≤ reachBytes := fun q hq => hz q (by
   simp only [DataW.weights, underlying38]
   exact DataW.weights_mem_each (j := 1) (t := 35) (d := y1.1) rfl rfl q hq)
  have z2 : ∀ q ∈ y2.1.weights prog 36, q ≤ reachBytes := fun q hq => hz q (by
   simp only [DataW.weights, underlying38]
   exact DataW.weights_mem_each (j := 2) (t := 36) (d := y2.1) rfl rfl q hq)
  have hd : ∃ va, (cs.drop 97).take 1 = [va] ∧ cs.drop 97 = [va] := by
   have hl2 : (cs.drop 97).length = 1 := by simp [hl]
   match hx : cs.drop 97, hl2 with
   | [va], _ => exact ⟨va, by simp, rfl⟩
  obtain ⟨va, e1, e2⟩ := hd
  rw [e1] at g2
  obtain ⟨K, hK⟩ := zX g0
  obtain ⟨S, ar, ai, ao, cr, ci, co, hS, hBs, hW, l1, l2, l3⟩ := sU g1 z1
  obtain ⟨O, hO, hOl⟩ := wO g2 z2
  refine ⟨K, S, ar, ai, ao, cr, ci, co, va, O, ?_, hBs, hW, by omega, by omega, by omega, hO, by omega⟩
  have e3 : cs = cs.take 82 ++ ((cs.drop 82).take 15 ++ cs.drop 97) := by
   have q1 : cs.drop 97 = (cs.drop 82).drop 15 := by rw [List.drop_drop]
   rw [q1, List.take_append_drop, List.take_append_drop]
  rw [e3, hK, hS, e2]
  unfold scc
  simp
end
theorem pL.later {w w' : World} {v : Value} {O : List Acd} (h : pL w v O) (hb : Below w.heap.size w w') : pL w' v O := by
 obtain ⟨a, cap, rfl, h1, h2⟩ := h
 refine ⟨a, cap, rfl, h1, fun hn => ?_⟩
 obtain ⟨g, off, rfl, h3, h4⟩ := h2 hn
 exact ⟨g, off, rfl, Nat.lt_of_lt_of_le h3 hb.size, fun j hj i hi => by rw [hb.cell (p := ⟨g, off + j * 5 + i, none⟩) h3]; exact h4 j hj i hi⟩
theorem BX (K : Cp) (S : St) (vr vi vo va : Value) : (scc K S vr vi vo va).size = 98 := by
 unfold scc
 rw [List.size_toArray, List.length_append, List.length_append, Array.length_toList, Array.length_toList, aD]
 rfl
theorem SQ (K : Cp) (S : St) (vr vi vo va : Value) : (prog.info? 38).map (·.size) = some (scc K S vr vi vo va).size := by rw [BX]; kernel_rfl
theorem play_c (K : Cp) (S : St) (ar ai ao : Option Addr) (cr ci co : Nat) (O : List Acd) (va : Value) (kd : Int) (w : World) (hT : Tb w) (hs : Bs S (.slice ar S.ram.length cr) (.slice ai S.inp.length ci) (.slice ao S.out.length co) w) (hw : StW S) (lr : S.ram.length ≤ 140737488355328) (li : S.inp.length ≤ 140737488355328) (lo : S.out.length ≤ 140737488355328) (ha : pL w va O) (hl : O.length ≤ 140737488355328) :
  Calls prog 9 #[.agg (scc K S (.slice ar S.ram.length cr) (.slice ai S.inp.length ci) (.slice ao S.out.length co) va), .int .i64 kd] w fun e w' => e = .returned (.bool true) ∧ Below w.heap.size w w' := by
 cases hok : S.ok with
 | false => exact FF K S ar ai ao cr ci co O va kd w hT hs hw lr li lo ha hl hok
 | true => exact FG (fun w h hs hT hB k a => JT w h hs hT hB k a) (fun w h hs k a => MX w h hs k a) K S ar ai ao cr ci co O va kd w hT hs hw lr li lo ha hl hok
end Go.Proofs.YtiffkbmppmejhaaGreatDoor
