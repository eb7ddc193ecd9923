import Derived.Test.YtlhgphokfpnfeaaGreatDoorK11
import Derived.Test.YtlhgphokfpnfeaaGreatDoorK14
import Derived.Test.YtlhgphokfpnfeaaGreatDoorK23
import Derived.Test.YtlhgphokfpnfeaaGreatDoorK08
import Derived.Test.YtlhgphokfpnfeaaGreatDoorK27
import Derived.Test.YtlhgphokfpnfeaaGreatDoorK07
import Derived.Test.YtlhgphokfpnfeaaGreatDoorK26
namespace Go.Proofs.YtlhgphokfpnfeaaGreatDoor
set_option linter.unusedVariables false
open Go.ChangeShapes Go.WideShapes Go.ChangeAt Go.RowKit Go.Deep
theorem cmp_trap (w : World) (d : Nat) (t u : Tp) : Cmp Tryz.prog w (d + 2) 48 (.agg (tpc t)) (.agg (tpc u)) (t.is = u.is ∧ t.ca = u.ca ∧ t.tv = u.tv ∧ True) := by
  refine Cmp.struct Tryz.underlying48 (by kernel_rfl) ?_
  refine CmpF.cons (by decide) (run_part_plain w (by kernel_rfl) rfl) (run_part_plain w (by kernel_rfl) rfl) (Cmp.bool Tryz.underlying4) ?_
  refine CmpF.cons (by decide) (run_part_plain w (by kernel_rfl) rfl) (run_part_plain w (by kernel_rfl) rfl) (Cmp.int Tryz.underlying22) ?_
  refine CmpF.cons (by decide) (run_part_plain w (by kernel_rfl) rfl) (run_part_plain w (by kernel_rfl) rfl) ((Cmp.int Tryz.underlying22).iff n64_inj) ?_
  exact CmpF.nil
/-- A row that stays. -/
structure Kr (B : Nat) (L : Lay) (c : Nat) (vr vi vo : Value) (w : World) (g : Nat) (cs : Array Value) (t : TypeId) : Prop where
  r : Row w g cs t
  n1 : ¬ L.own g
  n2 : ¬ Rown c vr vi vo g
  ge : B ≤ g
section
variable {B : Nat} {w0 : World} {b c g g' : Nat} {L L1 : Lay} {S T S1 : St} {vr vi vo ur ui uo : Value} {w w' : World} {cs cs' : Array Value} {t t' : TypeId}
theorem Kr.later (h : Kr B L c vr vi vo w g cs t) (hb : Below w.heap.size w w') : Kr B L c vr vi vo w' g cs t := ⟨h.r.later hb h.r.lt, h.n1, h.n2, h.ge⟩
theorem Kr.put (k : Kr B L c vr vi vo w g cs t) (cs' : Array Value) : Kr B L c vr vi vo (w.setRow g cs') g cs' t := ⟨setRow_heap _ _ _ _ _ _ k.r, k.n1, k.n2, k.ge⟩
theorem Kr.far (k : Kr B L c vr vi vo w g cs t) (hne : g ≠ g') (cs' : Array Value) : Kr B L c vr vi vo (w.setRow g' cs') g cs t := ⟨(setRow_other _ _ _ _ hne).trans k.r, k.n1, k.n2, k.ge⟩
theorem Kr.drew (h : Kr B L c vr vi vo w g cs t) : Kr B L c vr vi vo w.drew g cs t := h.later (Below.refl _ _).drew
end
/-- A scene's cells. -/
def scc (K : Cp) (S : St) (vr vi vo va : Value) : Array Value := ((cpc K).toList ++ ((stc S vr vi vo).toList ++ [va])).toArray
theorem scc_c (K : Cp) (S : St) (vr vi vo va : Value) (j : Nat) (v : Value) (h : (cpc K)[j]? = some v) : (scc K S vr vi vo va)[0 + j]? = some v := by
  have hj : j < 82 := by
    by_cases q : j < 82
    · exact q
    · rw [Array.getElem?_eq_none (by rw [cpc_size]; omega)] at h; cases h
  unfold scc
  rw [Nat.zero_add, List.getElem?_toArray, List.getElem?_append_left (by rw [Array.length_toList, cpc_size]; exact hj), Array.getElem?_toList]
  exact h
theorem scc_b (K : Cp) (S : St) (vr vi vo va : Value) (j : Nat) (v : Value) (h : (stc S vr vi vo)[j]? = some v) : (scc K S vr vi vo va)[82 + j]? = some v := by
  have hj : j < 15 := by
    by_cases q : j < 15
    · exact q
    · rw [Array.getElem?_eq_none (by show 15 ≤ j; omega)] at h; cases h
  unfold scc
  rw [List.getElem?_toArray, List.getElem?_append_right (by rw [Array.length_toList, cpc_size]; omega), Array.length_toList, cpc_size, show 82 + j - 82 = j by omega, List.getElem?_append_left (by rw [Array.length_toList]; exact hj), Array.getElem?_toList]
  exact h
theorem scc_a (K : Cp) (S : St) (vr vi vo va : Value) : (scc K S vr vi vo va)[97]? = some va := by
  unfold scc
  rw [List.getElem?_toArray, List.getElem?_append_right (by rw [Array.length_toList, cpc_size]; omega), Array.length_toList, cpc_size, List.getElem?_append_right (by rw [Array.length_toList]; exact Nat.le_refl 15), Array.length_toList]
  rfl
/-- Acts in memory. -/
def Acts (w : World) (v : Value) (O : List Acd) : Prop :=
  ∃ a cap, v = .slice a O.length cap ∧ O.length ≤ cap ∧ (O ≠ [] → ∃ g off, a = some ⟨g, off, none⟩ ∧ g < w.heap.size ∧ ∀ j, j < O.length → ∀ i, i < 5 → w.cell? ⟨g, off + j * 5 + i, none⟩ = (acc (O.getD j ⟨0, 0, 0, 0#64, 0#64⟩))[i]?)
theorem info_bus (S : St) (vr vi vo : Value) : (Tryz.prog.info? 35).map (·.size) = some (stc S vr vi vo).size := by kernel_rfl
end Go.Proofs.YtlhgphokfpnfeaaGreatDoor
namespace Go.Proofs.YtlhgphokfpnfeaaGreatDoor
set_option linter.unusedVariables false
open Go.ChangeShapes Go.WideShapes Go.ChangeAt Go.RowKit Go.Deep
/-- A Cpu with another's reservation. -/
def resOf (K o : Cp) : Cp := { K with rv := o.rv, ra := o.ra, rs := o.rs }
theorem PR_nores {K : Cp} (h : PR K = K) : PR (nores K) = nores K := by
  have e : PR (nores K) = nores (PR K) := rfl
  rw [e, h]
theorem PR_reserved {K : Cp} (h : PR K = K) {ad : BitVec 64} {sz : Int} (hz : (sz = 4 ∧ ad % 4#64 = 0#64) ∨ (sz = 8 ∧ ad % 8#64 = 0#64)) : PR { K with rv := true, ra := ad, rs := sz } = { K with rv := true, ra := ad, rs := sz } := by
  have hr : rok true ad sz = true := by
    unfold rok
    rcases hz with ⟨rfl, q⟩ | ⟨rfl, q⟩ <;> simp [q]
  have e : PR { K with rv := true, ra := ad, rs := sz } = { PR K with rv := rok true ad sz, ra := if rok true ad sz then ad else 0#64, rs := if rok true ad sz then sz else 0 } := rfl
  rw [e, hr, if_pos rfl, if_pos rfl, h]
theorem trap_MV {S : St} {k : Wy} {z : Nat} {f : Option (BitVec 64 → BitVec 64)} (h : (MV S k z f).t.is = false) : fbd S k z = tN ∧ n64 k.ad % (z : Int) = 0 ∧ thr S k.ra k.r k.ad z = true := by
  have hf : (fbd S k z).is = false := by
    cases f with
    | none =>
      simp only [MV] at h
      split at h
      · rename_i q; rw [h] at q; cases q
      · rename_i q; simpa using q
    | some f =>
      simp only [MV] at h
      split at h
      · rename_i q; rw [h] at q; cases q
      · rename_i q; simpa using q
  unfold fbd at hf ⊢
  by_cases h1 : n64 k.ad % (z : Int) = 0
  · rw [if_pos h1] at hf ⊢
    by_cases h2 : ckA (PC k.c) (PA k.a) k.m k.ad z k.r = true ∧ thr S k.ra k.r k.ad z = true
    · rw [if_pos h2]; exact ⟨rfl, h1, h2.2⟩
    · rw [if_neg h2] at hf; cases hf
  · rw [if_neg h1] at hf; cases hf
/-- What is known of a reservation: of the Cpu, and what the law keeps beside it. -/
structure Rv (K : Cp) (held : Bool) (at' : BitVec 64) (size : Int) : Prop where
  p : PR K = K
  e : held = K.rv
  h : held = true → at' = K.ra ∧ size = K.rs ∧ (size = 4 ∨ size = 8) ∧ 2147483648 ≤ n64 at' ∧ n64 at' ≤ 2147549184
theorem Rv.ok {K : Cp} {b : Bool} {x : BitVec 64} {s : Int} (h : Rv K b x s) : rsOk K := by
  have q := PR_rsOk K
  rw [h.p] at q
  exact q
theorem al_4 {ad : BitVec 64} (h : n64 ad % 4 = 0) : ad % 4#64 = 0#64 := by
  apply BitVec.eq_of_toNat_eq
  unfold n64 at h
  rw [BitVec.toNat_umod]
  show ad.toNat % 4 = 0
  omega
theorem al_8 {ad : BitVec 64} (h : n64 ad % 8 = 0) : ad % 8#64 = 0#64 := by
  apply BitVec.eq_of_toNat_eq
  unfold n64 at h
  rw [BitVec.toNat_umod]
  show ad.toNat % 8 = 0
  omega
/-- How many bytes an act has. -/
def wdt (a : Acd) : Int := if a.kd = 6 then (if 86 ≤ a.op then 8 else 4) else a.sz
end Go.Proofs.YtlhgphokfpnfeaaGreatDoor
namespace Go.Proofs.YtlhgphokfpnfeaaGreatDoor
set_option linter.unusedVariables false
open Go.MuLone Go.ChangeShapes Go.WideShapes Go.ChangeAt Go.RowKit Go.Deep
theorem DO_ok {S : St} (hs : Sok S) (k : Cp) (a : Acd) : Sok (DO S k a).2 := by
  unfold DO
  have hb : ∀ t e : Bool, Sok (S.beg t e false [n64 a.ad % 256]) := fun t e => hs.beg _ _ _ _ (fun x hx => by
    have q : x = n64 a.ad % 256 := by simpa using hx
    subst q
    have := n64_lo a.ad
    omega)
  repeat' split
  all_goals first | exact FT_ok hs | exact PL_ok hs | exact AT_ok hs | exact AM_ok hs | exact hb _ _ | exact hs
end Go.Proofs.YtlhgphokfpnfeaaGreatDoor
namespace Go.Proofs.YtlhgphokfpnfeaaGreatDoor
set_option linter.unusedVariables false
open Go.ChangeShapes Go.WideShapes Go.ChangeAt Go.RowKit Go.Deep
section
variable {H : Type} {enc : TypeId × Value → H} {w : World} {base : Nat} {held : Bool}
theorem cellsActd : Tryz.prog.cellsOf 45 = 5 := by kernel_rfl
theorem bytesActd : Tryz.prog.bytesOf 45 = 40 := by kernel_rfl
set_option maxRecDepth 100000 in
theorem open_acd {fuel : Nat} {cs : List Value} {y : DataW H × List MemPlace} (h : DataW.trod enc Tryz.prog w base (fun _ => true) held fuel 45 cs = some y) : ∃ x : Acd, cs = (acc x).toList := by
  obtain ⟨xs, n, _, rfl, hl, hlen, hf⟩ := DataW.trod_struct Tryz.underlying45 h
  rw [cellsActd] at hl
  match cs, hl, xs, (show xs.length = 5 from hlen), hf with
  | [v0, v1, v2, v3, v4], _, [y0, y1, y2, y3, y4], _, hf =>
    have g0 : DataW.trod enc Tryz.prog w base (fun _ => true) held n 3 [v0] = some y0 := by
      have := hf 0 _ rfl
      simpa [show Tryz.prog.cellsOf 3 = 1 by kernel_rfl] using this
    have g1 : DataW.trod enc Tryz.prog w base (fun _ => true) held n 3 [v1] = some y1 := by
      have := hf 1 _ rfl
      simpa [show Tryz.prog.cellsOf 3 = 1 by kernel_rfl] using this
    have g2 : DataW.trod enc Tryz.prog w base (fun _ => true) held n 3 [v2] = some y2 := by
      have := hf 2 _ rfl
      simpa [show Tryz.prog.cellsOf 3 = 1 by kernel_rfl] using this
    have g3 : DataW.trod enc Tryz.prog w base (fun _ => true) held n 22 [v3] = some y3 := by
      have := hf 3 _ rfl
      simpa [show Tryz.prog.cellsOf 22 = 1 by kernel_rfl] using this
    have g4 : DataW.trod enc Tryz.prog w base (fun _ => true) held n 22 [v4] = some y4 := by
      have := hf 4 _ rfl
      simpa [show Tryz.prog.cellsOf 22 = 1 by kernel_rfl] using this
    obtain ⟨i0, e0, _, w0⟩ := DataW.trod_int Tryz.underlying3 g0
    simp only [List.cons.injEq, and_true] at e0
    subst e0
    obtain ⟨i1, e1, _, w1⟩ := DataW.trod_int Tryz.underlying3 g1
    simp only [List.cons.injEq, and_true] at e1
    subst e1
    obtain ⟨i2, e2, _, w2⟩ := DataW.trod_int Tryz.underlying3 g2
    simp only [List.cons.injEq, and_true] at e2
    subst e2
    obtain ⟨i3, e3, _, w3⟩ := DataW.trod_int Tryz.underlying22 g3
    simp only [List.cons.injEq, and_true] at e3
    subst e3
    obtain ⟨x3, rfl⟩ := n64_of w3
    obtain ⟨i4, e4, _, w4⟩ := DataW.trod_int Tryz.underlying22 g4
    simp only [List.cons.injEq, and_true] at e4
    subst e4
    obtain ⟨x4, rfl⟩ := n64_of w4
    exact ⟨⟨i0, i1, i2, x3, x4⟩, rfl⟩
set_option maxRecDepth 100000 in
theorem open_acts {fuel : Nat} {v : Value} {y : DataW H × List MemPlace} (h : DataW.trod enc Tryz.prog w base (fun _ => true) held fuel 36 [v] = some y) (hz : ∀ q ∈ y.1.weights Tryz.prog 36, q ≤ reachBytes) :
    ∃ O : List Acd, Acts w v O ∧ O.length * 40 ≤ 140737488351232 := by
  rcases DataW.trod_slice Tryz.underlying36 h with ⟨e, _⟩ | ⟨a, len, cap, elems, rest, n, _, e, hy, _, hl, hm, hel, hc, _, _⟩
  · simp at e
    subst e
    exact ⟨[], ⟨none, 0, rfl, Nat.le_refl _, fun hn => absurd rfl hn⟩, by simp⟩
  · simp at e
    subst e
    have hlen : len * 40 ≤ reachBytes := by
      have hmem : (elems.length + rest.length) * 40 ∈ y.1.weights Tryz.prog 36 := by
        rw [hy]; simp [DataW.weights, Tryz.underlying36, bytesActd]
      have := hz _ hmem
      omega
    have each : ∀ i, i < len → ∃ x : Acd, (∀ c, c < 5 → w.cell? ((a.add (i * 5)).add c) = (acc x)[c]?) := by
      intro i hi
      have hci := hc i hi
      rw [cellsActd] at hci
      have hei : ∃ z, elems[i]? = some z := ⟨elems[i]'(by omega), List.getElem?_eq_getElem (by omega)⟩
      obtain ⟨z, hzz⟩ := hei
      rw [hzz] at hci
      obtain ⟨cs, hcs, ht⟩ := Option.bind_eq_some_iff.1 hci
      obtain ⟨x, hx⟩ := open_acd ht
      obtain ⟨_, _, hcell⟩ := World.cells?_some hcs
      exact ⟨x, fun c hc' => by rw [hcell c hc', hx, Array.getElem?_toList]⟩
    obtain ⟨O, hLl, hLp⟩ := choose_list (⟨0, 0, 0, 0#64, 0#64⟩ : Acd) len each
    subst hLl
    refine ⟨O, ⟨some a, cap, rfl, hl, fun hne => ?_⟩, by simp only [reachBytes] at hlen; omega⟩
    have hpos : 0 < O.length := List.length_pos_iff.2 hne
    obtain ⟨b, off, spot⟩ := a
    have hc0 := (hLp 0 hpos) 0 (by omega)
    have hsp : (((⟨b, off, spot⟩ : Addr).add (0 * 5)).add 0).spot = none := World.cell?_spot (v := .int .i64 (O.getD 0 ⟨0, 0, 0, 0#64, 0#64⟩).kd) hc0
    have hspot : spot = none := by simpa [Addr.add] using hsp
    subst hspot
    have hadd : ∀ (x y : Nat), (⟨b, x, none⟩ : Addr).add y = ⟨b, x + y, none⟩ := fun x y => by unfold Addr.add; split <;> simp_all
    have hc0' : w.cell? ⟨b, off, none⟩ = some (.int .i64 (O.getD 0 ⟨0, 0, 0, 0#64, 0#64⟩).kd) := by
      have := hc0; rw [hadd, hadd] at this; simpa [acc] using this
    refine ⟨b, off, rfl, World.block_lt_of_cell? w _ hc0', fun j hj c hc' => ?_⟩
    have := (hLp j hj) c hc'; rw [hadd, hadd] at this; exact this
theorem cellsScn : Tryz.prog.cellsOf 38 = 98 := by kernel_rfl
theorem cellsActs : Tryz.prog.cellsOf 36 = 1 := by kernel_rfl
set_option maxRecDepth 100000 in
theorem open_scene {fuel : Nat} {cs : List Value} {y : DataW H × List MemPlace} (h : DataW.trod enc Tryz.prog w base (fun _ => true) held fuel 38 cs = some y) (hz : ∀ q ∈ y.1.weights Tryz.prog 38, q ≤ reachBytes) :
    ∃ (K : Cp) (S : St) (ar ai ao : Option Addr) (cr ci co : Nat) (va : Value) (O : List Acd), cs = (scc K S (.slice ar S.ram.length cr) (.slice ai S.inp.length ci) (.slice ao S.out.length co) va).toList ∧ Bs S (.slice ar S.ram.length cr) (.slice ai S.inp.length ci) (.slice ao S.out.length co) w ∧ StW S ∧
      S.ram.length ≤ 140737488355328 ∧ S.inp.length ≤ 140737488355328 ∧ S.out.length ≤ 140737488355328 ∧ Acts w va O ∧ O.length ≤ 140737488355328 := by
  obtain ⟨xs, n, _, rfl, hl, hlen, hf⟩ := DataW.trod_struct Tryz.underlying38 h
  rw [cellsScn] at hl
  match xs, (show xs.length = 3 from hlen), hf, hz with
  | [y0, y1, y2], _, hf, hz =>
    have g0 : DataW.trod enc Tryz.prog w base (fun _ => true) held n 31 (cs.take 82) = some y0 := by
      have := hf 0 _ rfl
      simpa [cells_cpu] using this
    have g1 : DataW.trod enc Tryz.prog w base (fun _ => true) held n 35 ((cs.drop 82).take 15) = some y1 := by
      have := hf 1 _ rfl
      simpa [cellsSt] using this
    have g2 : DataW.trod enc Tryz.prog w base (fun _ => true) held n 36 ((cs.drop 97).take 1) = some y2 := by
      have := hf 2 _ rfl
      simpa [cellsActs] using this
    have z1 : ∀ q ∈ y1.1.weights Tryz.prog 35, q ≤ reachBytes := fun q hq => hz q (by
      simp only [DataW.weights, Tryz.underlying38]
      exact DataW.weights_mem_each (j := 1) (t := 35) (d := y1.1) rfl rfl q hq)
    have z2 : ∀ q ∈ y2.1.weights Tryz.prog 36, q ≤ reachBytes := fun q hq => hz q (by
      simp only [DataW.weights, Tryz.underlying38]
      exact DataW.weights_mem_each (j := 2) (t := 36) (d := y2.1) rfl rfl q hq)
    have hd : ∃ va, (cs.drop 97).take 1 = [va] ∧ cs.drop 97 = [va] := by
      have hl2 : (cs.drop 97).length = 1 := by simp [hl]
      match hx : cs.drop 97, hl2 with
      | [va], _ => exact ⟨va, by simp, rfl⟩
    obtain ⟨va, e1, e2⟩ := hd
    rw [e1] at g2
    obtain ⟨K, hK⟩ := open_cpu g0
    obtain ⟨S, ar, ai, ao, cr, ci, co, hS, hBs, hW, l1, l2, l3⟩ := open_state g1 z1
    obtain ⟨O, hO, hOl⟩ := open_acts g2 z2
    refine ⟨K, S, ar, ai, ao, cr, ci, co, va, O, ?_, hBs, hW, by omega, by omega, by omega, hO, by omega⟩
    have e3 : cs = cs.take 82 ++ ((cs.drop 82).take 15 ++ cs.drop 97) := by
      have q1 : cs.drop 97 = (cs.drop 82).drop 15 := by rw [List.drop_drop]
      rw [q1, List.take_append_drop, List.take_append_drop]
    rw [e3, hK, hS, e2]
    unfold scc
    simp
end
end Go.Proofs.YtlhgphokfpnfeaaGreatDoor
namespace Go.Proofs.YtlhgphokfpnfeaaGreatDoor
set_option linter.unusedVariables false
open Go.MuLone Go.ChangeShapes Go.WideShapes Go.ChangeAt Go.RowKit Go.Deep
/-- The program's bus between two calls. -/
structure Ky (w0 : World) (b : Nat) (L : Lay) (S : St) (w : World) : Prop where
  p : PB w0.heap.size L S w
  e : L.b = b
  be : Below w0.heap.size w0 w
/-- A row that stays. -/
structure Ks (w0 : World) (L : Lay) (w : World) (g : Nat) (cs : Array Value) (t : TypeId) : Prop where
  r : Row w g cs t
  n : ¬ L.own g
  ge : w0.heap.size ≤ g
section
variable {w0 : World} {b g g' : Nat} {L L1 : Lay} {S S1 : St} {w w' : World} {cs cs' : Array Value} {t t' : TypeId}
theorem Ky.later (h : Ky w0 b L S w) (hb : Below w.heap.size w w') : Ky w0 b L S w' := ⟨h.p.later hb, h.e, h.be.trans (hb.mono h.be.size)⟩
theorem Ks.later (h : Ks w0 L w g cs t) (hb : Below w.heap.size w w') : Ks w0 L w' g cs t := ⟨h.r.later hb h.r.lt, h.n, h.ge⟩
theorem Ky.step (h : Ky w0 b L S w) (hs : PSt w0.heap.size L w L1 S1 w') : Ky w0 b L1 S1 w' := ⟨hs.p, hs.b.1.trans h.e, h.be.trans (hs.x.below h.be.size (fun k hk => h.p.own_lo k hk))⟩
theorem Ks.step (h : Ks w0 L w g cs t) (hs : PSt w0.heap.size L w L1 S1 w') : Ks w0 L1 w' g cs t :=
  ⟨(hs.x.block g h.r.lt h.n).trans h.r, fun e => by rcases hs.o g e with q | q; exact h.n q; have := h.r.lt; omega, h.ge⟩
theorem Ks.new (h : Ky w0 b L S w) (cs : Array Value) (t : TypeId) : Ks w0 L (w.alloc (.cells cs t)) w.heap.size cs t :=
  ⟨Row.new w cs t, fun e => by have := h.p.own_hi _ e; omega, h.be.size⟩
theorem Ky.lay (h : Ky w0 b L S w) (k : Ks w0 L w g cs t) (o : Nat) : ∀ (l : List Value), Ky w0 b L S (w.setCells g o l) := fun l => by
  have q : ∀ (l : List Value) (o : Nat) {w : World}, Exc (fun j => j = g) w (w.setCells g o l) := fun l => by
    induction l with
    | nil => intro o w; exact ⟨rfl, rfl, rfl, Nat.le_refl _, fun _ _ _ => rfl⟩
    | cons v r ih =>
      intro o w
      rw [World.setCells]
      exact (show Exc (fun j => j = g) w (w.setCell ⟨g, o, none⟩ v) from ⟨rfl, rfl, rfl, by simp, fun j hj hne => heap_setCell_other w _ j v hne⟩).trans (ih (o + 1))
  exact ⟨h.p.exo (q l o) (fun j hj e => k.n (e ▸ hj)), h.e, below_lay k.ge l o h.be⟩
end
set_option maxRecDepth 100000 in
set_option maxHeartbeats 2000000 in
theorem start_ok (S : St) (ar ai ao : Option Addr) (cr ci co : Nat) (w : World) (hok : S.ok = true) (hs : Bs S (.slice ar S.ram.length cr) (.slice ai S.inp.length ci) (.slice ao S.out.length co) w) (lr : S.ram.length ≤ 140737488355328) (li : S.inp.length ≤ 140737488355328) (lo : S.out.length ≤ 140737488355328) :
    Calls Tryz.prog 8 #[.agg (stc S (.slice ar S.ram.length cr) (.slice ai S.inp.length ci) (.slice ao S.out.length co))] w fun e w' => ∃ L, e = .returned (.pointer (some ⟨L.b, 0, none⟩)) ∧ PB w.heap.size L S w' ∧ Below w.heap.size w w' := by
  obtain ⟨W0, hW0, r0, b0, s0⟩ := start1 w (stc S (.slice ar S.ram.length cr) (.slice ai S.inp.length ci) (.slice ao S.out.length co)) 35
  have HF : Hid (Calls Tryz.prog 22 #[.agg (stc S (.slice ar S.ram.length cr) (.slice ai S.inp.length ci) (.slice ao S.out.length co))] W0 fun e w' => ∃ L, e = .returned (.tuple #[.pointer (some ⟨L.b, 0, none⟩), .int .i64 0]) ∧ PB W0.heap.size L S w' ∧ Below W0.heap.size W0 w') := from_c S ar ai ao cr ci co W0 hok (hs.later b0.out).r (hs.later b0.out).i (hs.later b0.out).o lr li lo
  have HI : Hid ((Tryz.prog.info? 35).map (·.size) = some (stc S (.slice ar S.ram.length cr) (.slice ai S.inp.length ci) (.slice ao S.out.length co)).size) := info_bus _ _ _ _
  clear hs lr li lo s0 hok
  generalize (stc S (.slice ar S.ram.length cr) (.slice ai S.inp.length ci) (.slice ao S.out.length co)) = cs at HF HI hW0 r0 ⊢
  go_enter Tryz.func8, Tryz.ntmps8
  go_upto_region 1 with fail
  clear hW0
  go_wp2_with (first | (refine wpList_load_row (by rfl) _ _ (by rfl) _ (by rfl) 35 _ (0, 0) _ r0.out Tryz.underlying35 (by rfl) HI.out ?_) | (go_at_call 22; refine HF.out.mono ?_; rintro e w1 ⟨L, rfl, hp1, hb1⟩; have HP1 : Hid (PB W0.heap.size L S w1) := hp1; have HB1 : Hid (Below W0.heap.size W0 w1) := hb1; clear hp1 hb1))
  go_ret
  exact ⟨L, rfl, HP1.out.le b0.out.size, b0.out.trans (HB1.out.mono b0.out.size)⟩
set_option maxRecDepth 100000 in
set_option maxHeartbeats 2000000 in
theorem start_no (S : St) (ar ai ao : Option Addr) (cr ci co : Nat) (w : World) (hok : S.ok = false) :
    Calls Tryz.prog 8 #[.agg (stc S (.slice ar S.ram.length cr) (.slice ai S.inp.length ci) (.slice ao S.out.length co))] w fun e w' => e = .returned (.pointer none) ∧ Below w.heap.size w w' := by
  obtain ⟨W0, hW0, r0, b0, s0⟩ := start1 w (stc S (.slice ar S.ram.length cr) (.slice ai S.inp.length ci) (.slice ao S.out.length co)) 35
  have HF : Hid (Calls Tryz.prog 22 #[.agg (stc S (.slice ar S.ram.length cr) (.slice ai S.inp.length ci) (.slice ao S.out.length co))] W0 fun e w' => e = .returned (.tuple #[.pointer none, .int .i64 31]) ∧ Below W0.heap.size W0 w') := from_bad S ar ai ao cr ci co W0 hok
  have HI : Hid ((Tryz.prog.info? 35).map (·.size) = some (stc S (.slice ar S.ram.length cr) (.slice ai S.inp.length ci) (.slice ao S.out.length co)).size) := info_bus _ _ _ _
  clear s0 hok
  generalize (stc S (.slice ar S.ram.length cr) (.slice ai S.inp.length ci) (.slice ao S.out.length co)) = cs at HF HI hW0 r0 ⊢
  go_enter Tryz.func8, Tryz.ntmps8
  go_upto_region 1 with fail
  clear hW0
  go_wp2_with (first | (refine wpList_load_row (by rfl) _ _ (by rfl) _ (by rfl) 35 _ (0, 0) _ r0.out Tryz.underlying35 (by rfl) HI.out ?_) | (go_at_call 22; refine HF.out.mono ?_; rintro e w1 ⟨rfl, hb1⟩; have HB1 : Hid (Below W0.heap.size W0 w1) := hb1; clear hb1))
  go_ret
  exact ⟨rfl, b0.out.trans (HB1.out.mono b0.out.size)⟩
theorem mis_1 (S : St) (K : Cp) (v : BitVec 64) : PL S (wS 0 K 1#64) 8 (some fun _ => v) = ⟨0#64, 0#64, tS 6 1#64, S⟩ := by
  rw [PL_at (sz := 8) (z := 8) (by simp [wid4]) rfl]
  exact MV_mis (k := wS 0 K 1#64) (by show ¬ (n64 1#64 % ((8 : Nat) : Int) = 0); decide)
set_option maxRecDepth 100000 in
set_option maxHeartbeats 2000000 in
theorem access0_c {B : Nat} {L : Lay} {S : St} (w : World) (h : PB B L S w) (hs : Sok S) (hT : Tb w) (hB : 0 < B) (k : Cp) :
    Calls Tryz.prog 10 #[.agg (cpc k), .pointer (some ⟨L.b, 0, none⟩)] w fun e w' => e = .returned (.agg (cpc (PR k))) ∧ ∃ L', PSt B L w L' S w' := by
  obtain ⟨W0, hW0, r0, r1, b0, s0⟩ := start2 w (cpc k) (cpc cz) 31 31
  have hzc := zero_cpu
  have hzt := zero_trap
  have HP0 : Hid (PSt B L w L S W0) := (PSt.refl h).post b0.out
  have HO1 : Hid (Own w L W0 (w.heap.size + 1) (cpc cz) 31) := ⟨r1.out, (fun e => by have := h.own_hi _ e; omega), by omega⟩
  have HST : Hid (Calls Tryz.prog 24 #[.agg (cpc k), .pointer (some ⟨L.b, 0, none⟩), .int .u64 1, .int .i64 8, .int .u64 0] W0 fun e w' => e = .returned (.tuple #[.agg (cpc (PR k)), .agg (tpc (tS 6 1#64))]) ∧ ∃ L', PSt B L W0 L' S w') := by
    have q := aStore_c W0 HP0.out.p hs (hT.next b0.out) hB k 1#64 8 0#64
    rw [PL_wS, mis_1] at q
    exact q
  clear h hs hT s0
  go_enter Tryz.func10, Tryz.ntmps10
  go_upto_region 1 with fail
  clear hW0
  go_upto_region 2 with (first | (refine wpList_load_row (by rfl) _ _ (by rfl) _ (by rfl) 31 _ (0, 0) _ r0.out Tryz.underlying31 (by rfl) (info_cpu _) ?_) | (go_at_call 24; refine HST.out.mono ?_; rintro e w5 ⟨rfl, L1, hp5⟩; have HP5 : Hid (PSt B L W0 L1 S w5) := hp5; clear hp5) | (refine wpList_store_row (by rfl) _ _ _ (by rfl) (by rfl) _ _ _ (by rfl) (by rfl) (two_new _ _ _ _ _).1 (info_cpu _) (by rw [cpc_size, cpc_size]) (cpc_ones _) ?_) | (refine wpList_store_row (by rfl) _ _ _ (by rfl) (by rfl) _ _ _ (by rfl) (by rfl) ((setRow_other _ _ _ _ (by omega)).trans (two_new _ _ _ _ _).2) (info_trap _) (tpc_sz _ _) (tpc_ones _) ?_))
  have HC5 : Hid (Row ((((w5.alloc (.cells (cpc cz) 31)).alloc (.cells (tpc tN) 48)).setRow w5.heap.size (cpc (PR k))).setRow (w5.heap.size + 1) (tpc (tS 6 1#64))) w5.heap.size (cpc (PR k)) 31) := (setRow_other _ _ _ _ (by omega)).trans (setRow_heap _ _ _ _ _ _ (two_new w5 (cpc cz) (tpc tN) 31 48).1)
  refine on_P (motive := fun W => Code.wp _ _ _ _ W) (Q := fun W => Row W w5.heap.size (cpc (PR k)) 31 ∧ Own w L1 W (w.heap.size + 1) (cpc cz) 31 ∧ PSt B L w L1 S W) ⟨HC5.out, (own_two (HP0.out.trans HP5.out) (PR k) (tS 6 1#64)).2.2 _ _ _ (HO1.out.bus HP5.out), (own_two (HP0.out.trans HP5.out) (PR k) (tS 6 1#64)).2.1⟩ ?_
  clear HC5 HO1 HP0 HP5 HST r0 r1 b0
  generalize w5.heap.size = g5
  rintro W6 ⟨q0, q1, q2⟩
  have R0 : Hid (Row W6 g5 (cpc (PR k)) 31) := q0
  have HO1 : Hid (Own w L1 W6 (w.heap.size + 1) (cpc cz) 31) := q1
  have HP6 : Hid (PSt B L w L1 S W6) := q2
  clear q0 q1 q2
  go_wp2_with (first | (refine wpList_load_row (by rfl) _ _ (by rfl) _ (by rfl) 31 _ (0, 0) _ R0.out Tryz.underlying31 (by rfl) (info_cpu _) ?_) | (refine wpList_store_row (by rfl) _ _ _ (by rfl) (by rfl) _ _ _ (by rfl) (by rfl) HO1.out.r (info_cpu _) (by rw [cpc_size, cpc_size]) (cpc_ones _) ?_))
  refine bodyPost_ret (v := .agg (cpc (PR k))) (results_cell_row Tryz.results10 _ _ (w.heap.size + 1) 31 _ (0, 0) _ (by rfl) (setRow_heap _ _ _ _ _ _ HO1.out.r) Tryz.underlying31 (by rfl) (info_cpu _)) rfl ⟨rfl, L1, HP6.out.row HO1.out.n HO1.out.ge _⟩
set_option maxRecDepth 100000 in
set_option maxHeartbeats 2000000 in
theorem width_c (a : Acd) (w : World) : Calls Tryz.prog 11 #[.agg (acc a)] w fun e w' => e = .returned (.int .i64 (wdt a)) ∧ Below w.heap.size w w' := by
  obtain ⟨W0, hW0, r0, b0, s0⟩ := start1 w (acc a) 45
  have c0 : W0.cell? ⟨w.heap.size, 0, none⟩ = some (.int .i64 a.kd) := r0.out.cell 0
  have c1 : W0.cell? ⟨w.heap.size, 1, none⟩ = some (.int .i64 a.sz) := r0.out.cell 1
  have c2 : W0.cell? ⟨w.heap.size, 2, none⟩ = some (.int .i64 a.op) := r0.out.cell 2
  clear s0
  by_cases h6 : a.kd = 6
  · rw [h6] at c0
    by_cases h8 : 86 ≤ a.op
    · have HE : Hid (wdt a = 8) := by unfold Hid wdt; rw [if_pos h6, if_pos h8]
      go_enter Tryz.func11, Tryz.ntmps11
      go_upto_region 1 with fail
      clear hW0
      go_wp2
      go_ret
      exact ⟨by rw [HE.out]; rfl, b0.out⟩
    · have HE : Hid (wdt a = 4) := by unfold Hid wdt; rw [if_pos h6, if_neg h8]
      go_enter Tryz.func11, Tryz.ntmps11
      go_upto_region 1 with fail
      clear hW0
      go_wp2
      go_ret
      exact ⟨by rw [HE.out]; rfl, b0.out⟩
  · have HE : Hid (wdt a = a.sz) := by unfold Hid wdt; rw [if_neg h6]
    have en : (a.kd != 6) = true := by rw [bne_iff_ne]; exact h6
    go_enter Tryz.func11, Tryz.ntmps11
    go_upto_region 1 with fail
    clear hW0
    go_wp2
    go_ret
    exact ⟨by rw [HE.out]; rfl, b0.out⟩
end Go.Proofs.YtlhgphokfpnfeaaGreatDoor
namespace Go.Proofs.YtlhgphokfpnfeaaGreatDoor
set_option linter.unusedVariables false
open Go.ChangeShapes Go.WideShapes Go.ChangeAt Go.RowKit Go.Deep
theorem fbd_tN {S : St} {k : Wy} {z : Nat} (h : ¬ (fbd S k z).is = true) : fbd S k z = tN := by
  unfold fbd at h ⊢
  by_cases h1 : n64 k.ad % (z : Int) = 0
  · rw [if_pos h1] at h ⊢
    by_cases h2 : ckA (PC k.c) (PA k.a) k.m k.ad z k.r = true ∧ thr S k.ra k.r k.ad z = true
    · rw [if_pos h2]
    · rw [if_neg h2] at h; exact absurd rfl h
  · rw [if_neg h1] at h; exact absurd rfl h
/-- The trap of an access is what forbids it. -/
theorem MV_t (S : St) (k : Wy) (z : Nat) (f : Option (BitVec 64 → BitVec 64)) : (MV S k z f).t = fbd S k z := by
  by_cases h : (fbd S k z).is = true
  · cases f with
    | none => simp only [MV]; rw [if_pos h]
    | some f => simp only [MV]; rw [if_pos h]
  · have e := fbd_tN h
    cases f with
    | none => simp only [MV]; rw [if_neg h, e]
    | some f => simp only [MV]; rw [if_neg h, e]
/-- An access that traps. -/
def Trd (S : St) (m : Mv) : Prop := (m.t.is = true → m = ⟨0#64, 0#64, m.t, S⟩) ∧ (m.t.is = false → m.t = tN)
theorem MV_trd (S : St) (k : Wy) (z : Nat) (f : Option (BitVec 64 → BitVec 64)) : Trd S (MV S k z f) := by
  refine ⟨fun h => ?_, fun h => ?_⟩
  · rw [MV_t] at h ⊢
    cases f with
    | none => simp only [MV]; rw [if_pos h]
    | some f => simp only [MV]; rw [if_pos h]
  · rw [MV_t] at h ⊢
    exact fbd_tN (by rw [h]; decide)
theorem bad_trd (S : St) (c : Int) (a : BitVec 64) : Trd S ⟨0#64, 0#64, tS c a, S⟩ := ⟨fun _ => rfl, fun h => by cases h⟩
theorem PL_trd (S : St) (k : Wy) (sz : Int) (f : Option (BitVec 64 → BitVec 64)) : Trd S (PL S k sz f) := by
  unfold PL
  split
  · exact MV_trd _ _ _ _
  split
  · exact MV_trd _ _ _ _
  split
  · exact MV_trd _ _ _ _
  split
  · exact MV_trd _ _ _ _
  exact bad_trd _ _ _
theorem AT_trd (S : St) (k : Wy) (sz : Int) (f : Option (BitVec 64 → BitVec 64)) : Trd S (AT S k sz f) := by
  unfold AT
  split
  · exact PL_trd _ _ _ _
  exact bad_trd _ _ _
theorem AM_trd (S : St) (K : Cp) (b : Nat) (op : Int) (ad v : BitVec 64) : Trd S (AM S K b op ad v) := by
  unfold AM
  split
  · exact bad_trd _ _ _
  exact AT_trd _ _ _ _
/-- A load of RAM changes nothing. -/
theorem MV_ram {S : St} {k : Wy} {z : Nat} (hz : wid4 z) (hr : k.ra = true) : (MV S k z none).S = S := by
  simp only [MV]
  split
  · rfl
  · rename_i h
    have q := (fbd_there (k := k) hz (by simpa using h)).2.1 hr
    show mvT S k z = S
    unfold mvT
    split
    · rfl
    · simp only [St.ld, q]
theorem FT_S (S : St) (K : Cp) (b : Nat) : (FT S K b).S = S := by
  have h1 : (MV S (wF b K K.pc) 2 none).S = S := MV_ram (k := wF b K K.pc) (by simp [wid4]) rfl
  have h2 : (MV S (wF b K (K.pc + 2#64)) 2 none).S = S := MV_ram (k := wF b K (K.pc + 2#64)) (by simp [wid4]) rfl
  unfold FT
  rw [h1]
  unfold FT2
  split
  · exact h1
  split
  · split
    · exact h2
    · exact h2
  · exact h1
theorem FT_trd (S : St) (K : Cp) (b : Nat) : ((FT S K b).t.is = true → (FT S K b).raw = 0 ∧ (FT S K b).n = 0) ∧ ((FT S K b).t.is = false → (FT S K b).t = tN) := by
  unfold FT FT2
  refine ⟨fun h => ?_, fun h => ?_⟩
  · split at h
    · rename_i q; rw [if_pos q]; exact ⟨rfl, rfl⟩
    · rename_i q
      rw [if_neg q]
      split at h
      · rename_i q2
        rw [if_pos q2]
        split at h
        · rename_i q3; rw [if_pos q3]; exact ⟨rfl, rfl⟩
        · cases h
      · cases h
  · split at h
    · rename_i q; rw [q] at h; cases h
    · rename_i q
      rw [if_neg q]
      split at h
      · rename_i q2
        rw [if_pos q2]
        split at h
        · rename_i q3; rw [q3] at h; cases h
        · rename_i q3; rw [if_neg q3]
      · rename_i q2; rw [if_neg q2]
/-- The Cpu that an act answers: the one handed in, but for its reservation and, of a fetch, its place. -/
def cpB (K : Cp) (a : Acd) (o : Cp) : Cp := if a.kd = 1 then { o with pc := K.pc } else o
structure Dn (S : St) (K : Cp) (a : Acd) (o : Ot) (T : St) : Prop where
  tr : o.t.is = true → T = S ∧ cpB K a o.K = K ∧ o.A = 0 ∧ o.B = 0 ∧ o.N = 0 ∧ o.ok = false
  no : o.t.is = false → o.t = tN
  k : ({ cpB K a o.K with rv := K.rv, ra := K.ra, rs := K.rs } : Cp) = K
  p : PR (resOf K o.K) = resOf K o.K
theorem cpB_n {K : Cp} {a : Acd} {o : Cp} (h : ¬ a.kd = 1) : cpB K a o = o := by unfold cpB; rw [if_neg h]
theorem bhK_or (K : Cp) (ad : BitVec 64) (sz : Int) : bhK K ad sz = K ∨ bhK K ad sz = nores K := by
  unfold bhK; split
  · exact .inr rfl
  · exact .inl rfl
theorem dn_st {S : St} {K : Cp} {a : Acd} {m : Mv} (hp : PR K = K) (h1 : ¬ a.kd = 1) (hm : Trd S m) (ad : BitVec 64) (sz A B N : Int) (hA : m.t.is = true → A = 0) (hB : m.t.is = true → B = 0) (hN : m.t.is = true → N = 0) : Dn S K a ⟨A, B, N, false, m.t, stK (PR K) m ad sz⟩ m.S := by
  have hk : stK (PR K) m ad sz = K ∨ stK (PR K) m ad sz = nores K := by
    unfold stK
    rw [hp]
    split
    · exact .inl rfl
    · exact bhK_or _ _ _
  refine ⟨fun h => ⟨?_, ?_, hA h, hB h, hN h, rfl⟩, hm.2, ?_, ?_⟩
  · have h' : m.t.is = true := h
    rw [hm.1 h']
  · have h' : m.t.is = true := h
    rw [cpB_n h1]
    show stK (PR K) m ad sz = K
    unfold stK
    rw [if_pos h', hp]
  · rw [cpB_n h1]
    show ({ stK (PR K) m ad sz with rv := K.rv, ra := K.ra, rs := K.rs } : Cp) = K
    rcases hk with e | e <;> rw [e] <;> rfl
  · show PR (resOf K (stK (PR K) m ad sz)) = resOf K (stK (PR K) m ad sz)
    rcases hk with e | e <;> rw [e]
    · exact hp
    · exact PR_nores hp
theorem DO_dn {S : St} {K : Cp} {a : Acd} (hp : PR K = K) : Dn S K a (DO S K a).1 (DO S K a).2 := by
  unfold DO
  by_cases h1 : a.kd = 1
  · rw [if_pos h1]
    have q := FT_trd S (PR { K with pc := a.ad }) 0
    refine ⟨fun h => ⟨FT_S _ _ _, ?_, (q.1 h).1, rfl, (q.1 h).2, rfl⟩, q.2, ?_, hp⟩
    · unfold cpB; rw [if_pos h1]
    · unfold cpB; rw [if_pos h1]
  rw [if_neg h1]
  by_cases h2 : a.kd = 2
  · rw [if_pos h2]
    have q := PL_trd S (wL 0 (PR K) a.ad) a.sz none
    refine ⟨fun h => ⟨?_, cpB_n h1, ?_, rfl, rfl, rfl⟩, q.2, ?_, hp⟩
    · rw [q.1 h]
    · show n64 (PL S (wL 0 (PR K) a.ad) a.sz none).old = 0
      rw [q.1 h]; rfl
    · rw [cpB_n h1]
  rw [if_neg h2]
  by_cases h3 : a.kd = 3
  · rw [if_pos h3]
    exact dn_st hp h1 (PL_trd _ _ _ _) _ _ 0 0 0 (fun _ => rfl) (fun _ => rfl) (fun _ => rfl)
  rw [if_neg h3]
  by_cases h4 : a.kd = 4
  · rw [if_pos h4]
    have q := AT_trd S (wL 0 (PR K) a.ad) a.sz none
    by_cases ht : (AT S (wL 0 (PR K) a.ad) a.sz none).t.is = true
    · have e : rsK (PR K) (AT S (wL 0 (PR K) a.ad) a.sz none) a.ad a.sz = K := by unfold rsK; rw [if_pos ht, hp]
      refine ⟨fun h => ⟨?_, ?_, ?_, rfl, rfl, rfl⟩, q.2, ?_, ?_⟩
      · rw [q.1 h]
      · rw [cpB_n h1]; exact e
      · show n64 (AT S (wL 0 (PR K) a.ad) a.sz none).old = 0
        rw [q.1 h]; rfl
      · rw [cpB_n h1]
        show ({ rsK (PR K) (AT S (wL 0 (PR K) a.ad) a.sz none) a.ad a.sz with rv := K.rv, ra := K.ra, rs := K.rs } : Cp) = K
        rw [e]
      · show PR (resOf K (rsK (PR K) (AT S (wL 0 (PR K) a.ad) a.sz none) a.ad a.sz)) = resOf K (rsK (PR K) (AT S (wL 0 (PR K) a.ad) a.sz none) a.ad a.sz)
        rw [e]; exact hp
    · have hf : (AT S (wL 0 (PR K) a.ad) a.sz none).t.is = false := by simpa using ht
      have e : rsK (PR K) (AT S (wL 0 (PR K) a.ad) a.sz none) a.ad a.sz = { K with rv := true, ra := a.ad, rs := a.sz } := by unfold rsK; rw [if_neg ht, hp]
      have hz : a.sz = 4 ∨ a.sz = 8 := by
        unfold AT at hf
        by_cases q : a.sz = 4 ∨ a.sz = 8
        · exact q
        · rw [if_neg q] at hf; cases hf
      have hal : (a.sz = 4 ∧ a.ad % 4#64 = 0#64) ∨ (a.sz = 8 ∧ a.ad % 8#64 = 0#64) := by
        rcases hz with e4 | e4
        · rw [AT_at (z := 4) (by simp [wid4]) e4 (by omega)] at hf
          exact .inl ⟨e4, al_4 (trap_MV hf).2.1⟩
        · rw [AT_at (z := 8) (by simp [wid4]) e4 (by omega)] at hf
          exact .inr ⟨e4, al_8 (trap_MV hf).2.1⟩
      refine ⟨fun h => absurd h ht, q.2, ?_, ?_⟩
      · rw [cpB_n h1]
        show ({ rsK (PR K) (AT S (wL 0 (PR K) a.ad) a.sz none) a.ad a.sz with rv := K.rv, ra := K.ra, rs := K.rs } : Cp) = K
        rw [e]
      · show PR (resOf K (rsK (PR K) (AT S (wL 0 (PR K) a.ad) a.sz none) a.ad a.sz)) = resOf K (rsK (PR K) (AT S (wL 0 (PR K) a.ad) a.sz none) a.ad a.sz)
        rw [e]; exact PR_reserved hp hal
  rw [if_neg h4]
  by_cases h5 : a.kd = 5
  · rw [if_pos h5]
    generalize (if hel (PR K) a.ad a.sz = true then some (fun _ => a.v) else none : Option (BitVec 64 → BitVec 64)) = f
    have q := AT_trd S (wS 0 (PR K) a.ad) a.sz f
    generalize AT S (wS 0 (PR K) a.ad) a.sz f = m at q ⊢
    have hk : (if m.t.is = true then PR K else nores (PR K)) = K ∨ (if m.t.is = true then PR K else nores (PR K)) = nores K := by
      rw [hp]; split
      · exact .inl rfl
      · exact .inr rfl
    refine ⟨fun h => ⟨?_, ?_, rfl, rfl, rfl, ?_⟩, q.2, ?_, ?_⟩
    · have h' : m.t.is = true := h
      rw [q.1 h']
    · have h' : m.t.is = true := h
      rw [cpB_n h1]
      show (if m.t.is = true then PR K else nores (PR K)) = K
      rw [if_pos h', hp]
    · have h' : m.t.is = true := h
      show (!m.t.is && hel (PR K) a.ad a.sz) = false
      rw [h']; rfl
    · rw [cpB_n h1]
      show ({ (if m.t.is = true then PR K else nores (PR K)) with rv := K.rv, ra := K.ra, rs := K.rs } : Cp) = K
      rcases hk with e | e <;> rw [e] <;> rfl
    · show PR (resOf K (if m.t.is = true then PR K else nores (PR K))) = resOf K (if m.t.is = true then PR K else nores (PR K))
      rcases hk with e | e <;> rw [e]
      · exact hp
      · exact PR_nores hp
  rw [if_neg h5]
  by_cases h6 : a.kd = 6
  · rw [if_pos h6]
    have q := AM_trd S (PR K) 0 a.op a.ad a.v
    refine dn_st hp h1 q _ _ _ _ 0 (fun h => ?_) (fun h => ?_) (fun _ => rfl)
    · rw [q.1 h]; rfl
    · rw [q.1 h]; rfl
  rw [if_neg h6]
  by_cases h7 : a.kd = 7
  · rw [if_pos h7]
    exact ⟨fun h => (by cases h), fun _ => rfl, (by rw [cpB_n h1]; rfl), hp⟩
  rw [if_neg h7]
  exact ⟨fun h => (by cases h), fun _ => rfl, (by rw [cpB_n h1]; rfl), hp⟩
/-- A Cpu while a law runs: proper, and of the first but for the reservation. -/
structure Cst (K0 K : Cp) : Prop where
  p : PR K = K
  e : ∃ v a s, K = { K0 with rv := v, ra := a, rs := s }
theorem Cst.refl {K : Cp} (h : PR K = K) : Cst K K := ⟨h, K.rv, K.ra, K.rs, rfl⟩
theorem Cst.step {K0 K : Cp} (h : Cst K0 K) (S : St) (a : Acd) : Cst K0 (resOf K (DO S K a).1.K) := by
  obtain ⟨v, x, s, e⟩ := h.e
  exact ⟨(DO_dn h.p).p, _, _, _, by rw [e]; rfl⟩
end Go.Proofs.YtlhgphokfpnfeaaGreatDoor
namespace Go.Proofs.YtlhgphokfpnfeaaGreatDoor
set_option linter.unusedVariables false
open Go.MuLone Go.ChangeShapes Go.WideShapes Go.ChangeAt Go.RowKit Go.Deep
theorem wpList_store_end {P : Program} {ops : Array Oper} {rest : List Oper} {o : Oper} {a : Act} {w' : World} {Q : Exit → Act → World → Prop} (hgd : o.guard = none) (t : TypeId) (x y : Operand) (ho : o.op = .store t x y) (hd : o.dst = none)
    (w : World) (c c' : Array Value) (hw : w' = w.alloc (.cells c t)) (hx : a.eval x = .pointer (some ⟨w.heap.size, 0, none⟩)) (hy : a.eval y = .agg c') (hi : (P.info? t).map (·.size) = some c'.size) (hs : c.size = c'.size) (h1 : c'.all (·.oneCell') = true)
    (h : wpList P ops Q rest a (w.alloc (.cells c' t))) : wpList P ops Q (o :: rest) a w' := by
  subst hw
  exact wpList_store_new hgd t x y ho hd c c' hx hy hi hs h1 h
/-- The program's bus and the Cpu between two acts. -/
def Osv (w0 : World) (b gc : Nat) (K0 : Cp) (w : World) : Prop := ∃ K L S, Ky w0 b L S w ∧ Sok S ∧ Ks w0 L w gc (cpc K) 31 ∧ Cst K0 K
theorem Osv.later {w0 : World} {b gc : Nat} {K0 : Cp} {w w' : World} (h : Osv w0 b gc K0 w) (hb : Below w.heap.size w w') : Osv w0 b gc K0 w' := by
  obtain ⟨K, L, S, h1, h2, h3, h4⟩ := h
  exact ⟨K, L, S, h1.later hb, h2, h3.later hb, h4⟩
theorem Osv.be {w0 : World} {b gc : Nat} {K0 : Cp} {w : World} (h : Osv w0 b gc K0 w) : Below w0.heap.size w0 w := by
  obtain ⟨K, L, S, h1, h2, h3, h4⟩ := h
  exact h1.be
theorem Ky.row {w0 : World} {b g : Nat} {L : Lay} {S : St} {w : World} {cs : Array Value} {t : TypeId} (h : Ky w0 b L S w) (k : Ks w0 L w g cs t) (cs' : Array Value) : Ky w0 b L S (w.setRow g cs') :=
  ⟨h.p.exo (G := fun j => j = g) ⟨rfl, rfl, rfl, by simp, fun j hj hne => setRow_other _ _ _ _ hne⟩ (fun j hj e => k.n (e ▸ hj)), h.e, below_row h.be k.ge _⟩
theorem Ks.put {w0 : World} {g : Nat} {L : Lay} {w : World} {cs : Array Value} {t : TypeId} (k : Ks w0 L w g cs t) (cs' : Array Value) : Ks w0 L (w.setRow g cs') g cs' t := ⟨setRow_heap _ _ _ _ _ _ k.r, k.n, k.ge⟩
theorem Ks.far {w0 : World} {g g' : Nat} {L : Lay} {w : World} {cs : Array Value} {t : TypeId} (k : Ks w0 L w g cs t) (hne : g ≠ g') (cs' : Array Value) : Ks w0 L (w.setRow g' cs') g cs t := ⟨(setRow_other _ _ _ _ hne).trans k.r, k.n, k.ge⟩
theorem zero_act (w : World) : (zeroValue 45).run Tryz.prog w = .ok (.agg (acc ⟨0, 0, 0, 0#64, 0#64⟩)) w := by kernel_rfl
theorem otc_res {w : World} {g : Nat} {o : Ot} {t : TypeId} (h : Row w g (otc o) t) : ∀ j v, (rsc o.K.rv o.K.ra o.K.rs)[j]? = some v → w.cell? ⟨g, 86 + j, none⟩ = some v := fun j v hv => by
  rw [h.cell]
  match j, hv with
  | 0, hv => rw [otc_at _ _ (by omega)]; exact hv
  | 1, hv => rw [otc_at _ _ (by omega)]; exact hv
  | 2, hv => rw [otc_at _ _ (by omega)]; exact hv
  | j + 3, hv => cases hv
theorem otc_trap {w : World} {g : Nat} {o : Ot} {t : TypeId} (h : Row w g (otc o) t) : ∀ j v, (tpc o.t)[j]? = some v → w.cell? ⟨g, 4 + j, none⟩ = some v := fun j v hv => by
  rw [h.cell]
  match j, hv with
  | 0, hv => rw [otc_at _ _ (by omega)]; exact hv
  | 1, hv => rw [otc_at _ _ (by omega)]; exact hv
  | 2, hv => rw [otc_at _ _ (by omega)]; exact hv
  | j + 3, hv => cases hv
theorem eq_trap (w : World) (t : Tp) : (Op.equalIn 10000 48 (.agg (tpc t)) (.agg (tpc t))).run Tryz.prog w = .ok true w := by
  obtain ⟨r, hr, h⟩ := cmp_trap w 9998 t t
  rw [hr, h.2 ⟨rfl, rfl, rfl, trivial⟩]
end Go.Proofs.YtlhgphokfpnfeaaGreatDoor
namespace Go.Proofs.YtlhgphokfpnfeaaGreatDoor
set_option linter.unusedVariables false
open Go.ChangeShapes Go.WideShapes Go.ChangeAt Go.RowKit Go.Deep
/-- A state's lists in memory, apart from the bus. -/
structure Sb (L : Lay) (N : Nat) (S : St) (vr vi vo : Value) (w : World) : Prop where
  b : Bs S vr vi vo w
  n : ∀ v, (v = vr ∨ v = vi ∨ v = vo) → ∀ g off n c, v = .slice (some ⟨g, off, none⟩) n c → ¬ L.own g ∧ g < N
  l : N ≤ w.heap.size
theorem Byt.keeps {w w' : World} {v : Value} {l : List Int} (hs : w.heap.size ≤ w'.heap.size) (hb : Byt w v l) (hk : ∀ g off n c, v = .slice (some ⟨g, off, none⟩) n c → g < w.heap.size → w'.heap[g]? = w.heap[g]?) : Byt w' v l := by
  obtain ⟨a, cap, e1, e2, e3, e4⟩ := hb
  refine ⟨a, cap, e1, e2, e3, fun hl => ?_⟩
  obtain ⟨g, off, ea, q1, q2⟩ := e4 hl
  refine ⟨g, off, ea, Nat.lt_of_lt_of_le q1 hs, fun j hj => ?_⟩
  rw [World.cell?_of_block (w := w) (w' := w') (a := ⟨g, off + j, none⟩) (hk g off l.length cap (by rw [e1, ea]) q1)]
  exact q2 j hj
section
variable {L L1 : Lay} {B N g : Nat} {S S1 : St} {vr vi vo : Value} {w w' : World}
theorem Sb.keeps (h : Sb L N S vr vi vo w) (hs : w.heap.size ≤ w'.heap.size) (hk : ∀ g, g < N → ¬ L.own g → w'.heap[g]? = w.heap[g]?) : Bs S vr vi vo w' :=
  ⟨Byt.keeps hs h.b.r (fun g off n c e _ => hk g (h.n _ (.inl rfl) g off n c e).2 (h.n _ (.inl rfl) g off n c e).1), Byt.keeps hs h.b.i (fun g off n c e _ => hk g (h.n _ (.inr (.inl rfl)) g off n c e).2 (h.n _ (.inr (.inl rfl)) g off n c e).1), Byt.keeps hs h.b.o (fun g off n c e _ => hk g (h.n _ (.inr (.inr rfl)) g off n c e).2 (h.n _ (.inr (.inr rfl)) g off n c e).1)⟩
theorem Sb.later (h : Sb L N S vr vi vo w) (hb : Below w.heap.size w w') : Sb L N S vr vi vo w' := ⟨h.b.later hb, h.n, Nat.le_trans h.l hb.size⟩
theorem Sb.step (h : Sb L N S vr vi vo w) (hs : PSt B L w L1 S1 w') : Sb L1 N S vr vi vo w' :=
  ⟨h.keeps hs.x.size (fun g hg ho => hs.x.block g (Nat.lt_of_lt_of_le hg h.l) ho), fun v hv g off n c e => ⟨fun ho => by
    rcases hs.o g ho with q | q
    · exact (h.n v hv g off n c e).1 q
    · have := (h.n v hv g off n c e).2; have := h.l; omega, (h.n v hv g off n c e).2⟩, Nat.le_trans h.l hs.x.size⟩
theorem Sb.row (h : Sb L N S vr vi vo w) (hg : N ≤ g) (cs : Array Value) : Sb L N S vr vi vo (w.setRow g cs) :=
  ⟨h.keeps (by simp) (fun k hk _ => setRow_other _ _ _ _ (by omega)), h.n, by rw [size_setRow]; exact h.l⟩
theorem Sb.lay (h : Sb L N S vr vi vo w) (hg : N ≤ g) (o : Nat) (l : List Value) : Sb L N S vr vi vo (w.setCells g o l) := by
  have q : ∀ (l : List Value) (o : Nat) {w : World}, Exc (fun j => j = g) w (w.setCells g o l) := fun l => by
    induction l with
    | nil => intro o w; exact ⟨rfl, rfl, rfl, Nat.le_refl _, fun _ _ _ => rfl⟩
    | cons v r ih =>
      intro o w
      rw [World.setCells]
      exact (show Exc (fun j => j = g) w (w.setCell ⟨g, o, none⟩ v) from ⟨rfl, rfl, rfl, by simp, fun j hj hne => heap_setCell_other w _ j v hne⟩).trans (ih (o + 1))
  have e := q l o (w := w)
  exact ⟨h.keeps e.size (fun k hk _ => e.block k (Nat.lt_of_lt_of_le hk h.l) (by omega)), h.n, Nat.le_trans h.l e.size⟩
theorem Sb.new {w1 : World} (hp : PB B L S1 w1) (hb : Below w1.heap.size w1 w) (hs : Sv w1.heap.size S vr vi vo w) : Sb L w.heap.size S vr vi vo w := by
  refine ⟨hs.bs, fun v hv g off n c e => ?_, Nat.le_refl _⟩
  have q : w1.heap.size ≤ g ∧ g < w.heap.size := by
    rcases hv with rfl | rfl | rfl
    · exact own_byt_ge hs.r g off n c e
    · exact own_byt_ge hs.i g off n c e
    · exact own_byt_ge hs.o g off n c e
  exact ⟨fun ho => by have := hp.own_hi _ ho; omega, q.2⟩
end
theorem wpList_load_aggG {P : Program} {ops : Array Oper} {rest : List Oper} {o : Oper} {a : Act} {w : World} {Q : Exit → Act → World → Prop} (hw : Region.wanted o (yielded ops a.tmps) = true) (ty : TypeId) (x : Operand) (ho : o.op = .load ty x)
    (g off : Nat) (hx : a.eval x = .pointer (some ⟨g, off, none⟩)) (cs : Array Value) (d : TypeDesc) (hc : ∀ j v, cs[j]? = some v → w.cell? ⟨g, off + j, none⟩ = some v)
    (hu : P.underlying ty = some d) (hd : (match d with | .struct _ | .array _ _ => true | _ => false) = true) (hi : (P.info? ty).map (·.size) = some cs.size)
    (h : wpList P ops Q rest (a.put o.dst (.agg cs)) w) : wpList P ops Q (o :: rest) a w :=
  BigFrame.wpList_want hw fun _ hK => by
    unfold Oper.wp execOp
    simp only [ho, hx, Instr.loadAt, Instr.sureAddr, Sem.run_bind, Sem.run_pure, Result.andThen_ok, run_load_agg w ty g off cs d hc hu hd hi]
    exact hK _ _ h
theorem wpList_build_tabG {P : Program} {ops : Array Oper} {rest : List Oper} {o : Oper} {a : Act} {w : World} {Q : Exit → Act → World → Prop} (hw : Region.wanted o (yielded ops a.tmps) = true) (t : TypeId) (parts : Array (Nat × Operand)) (ho : o.op = .build t parts)
    (cells : Array Value) (hc : P.built t (parts.map fun (i, x) => (i, a.eval x)).toList = some cells)
    (h : wpList P ops Q rest (a.put o.dst (.agg cells)) w) : wpList P ops Q (o :: rest) a w :=
  BigFrame.wpList_want hw fun _ hK => by
    unfold Oper.wp execOp
    simp only [ho, Sem.run_bind, run_build w t _ cells hc, Result.andThen_ok]
    exact hK _ _ h
theorem load_aggs {P : Program} (ty : TypeId) (g off : Nat) (cs : Array Value) (d : TypeDesc) (w9 : World) (h : ∀ j v, cs[j]? = some v → w9.cell? ⟨g, off + j, none⟩ = some v) (hu : P.underlying ty = some d) (hd : (match d with | .struct _ | .array _ _ => true | _ => false) = true) (hi : (P.info? ty).map (·.size) = some cs.size) :
    ((Instr.loadAt ty (.pointer (some ⟨g, off, none⟩))) >>= fun v => pure (Next.value v)).run P w9 = .ok (.value (.agg cs)) w9 := by
  have hl := run_load_agg (P := P) w9 ty g off cs d h hu hd hi
  simp only [Instr.loadAt, Instr.sureAddr, Sem.run_bind, Sem.run_pure, Result.andThen_ok, hl]
def zST : St := ⟨[], 0, 0, 0, false, false, 0, 0, 0, 0, false, [], [], 0, 0⟩
theorem zero_busv (w : World) : (zeroValue 35).run Tryz.prog w = .ok (.agg (stc zST (.slice none 0 0) (.slice none 0 0) (.slice none 0 0))) w := by kernel_rfl
end Go.Proofs.YtlhgphokfpnfeaaGreatDoor
