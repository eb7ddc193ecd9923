import Derived.Test.YtddlmenfcbjoaaaGreatDoorK38
namespace Go.Proofs.YtddlmenfcbjoaaaGreatDoor
set_option linter.unusedVariables false
set_option maxRecDepth 100000
set_option maxHeartbeats 8000000
open Go.MuLone Go.ChangeShapes Go.WideShapes Go.ChangeAt Go.RowKit Go.Deep _root_.Go.Proofs.Tryz
structure Frm (i : Ins) (P X : Cp) (S T : St) (D : Dd) : Prop where
 pr : PR X = X
 tr : D.t.is = true → X = P
 x : (D.rd = 0 ∧ X.x = P.x) ∨ (D.rd = i.rd ∧ 0 < i.rd ∧ i.rd < 32 ∧ X.x = upd P.x i.rd.toNat D.v)
 m : Mm S T D
 kp : Kpo i.op P X
theorem VU (V : ZqZ) (S : St) (b : Nat) (c : Cp) (i : Ins) : Frm i (PR c) (dC (dR V S b c i) c) S (dR V S b c i).S (dD (dR V S b c i)) := by
 cases ht : (dR V S b c i).t.is with
 | true =>
  obtain ⟨e1, e2, e3, e4⟩ := oY ht
  rw [e1, e2, e3]
  exact ⟨fR c, fun _ => rfl, .inl ⟨rfl, rfl⟩, .inl ⟨rfl, rfl⟩, .refl _ _⟩
 | false =>
  obtain ⟨e1, e2, e3⟩ := oV ht
  obtain ⟨k0, q1, q2, q3, q4, q⟩ := dR_fm ht
  rw [e1, e2]
  refine ⟨q.pr, fun h => ?_, ?_, q.m, ?_⟩
  ·rw [e3] at h; cases h
  ·have qx := q.x
   rw [q1, q2] at qx
   rcases qx with h | h
   ·exact .inl h
   ·exact .inr ⟨h.1, by have := h.2.1; omega, q4, h.2.2⟩
  ·have qk := q.kp
   rw [q1, q2] at qk
   exact qk
theorem iY {s : Int} (h0 : 0 ≤ s) (h1 : s ≤ 9223372036854775807) : IntKind.u64.wrap s = s := by
 unfold IntKind.wrap
 simp [IntKind.bits, IntKind.signed]
 omega
theorem ram_c (l m : List Int) (v u : Value) (ad : BitVec 64) (z : Nat) (w : World) (hl : Byt w v l) (hm : Byt w u m) (hlen : m.length = l.length) (hmax : l.length ≤ 1000000) (hz : z ≤ 8) (hR : ∀ j, j < l.length → m.getD j 0 ≠ l.getD j 0 → 0 < z ∧ n64 ad ≤ 2147483648 + (j : Int) ∧ 2147483648 + (j : Int) < n64 ad + z) :
  Calls prog 18 #[v, u, .int .u64 (n64 ad), .int .i64 (z : Int)] w fun e w' => e = .returned (.bool true) ∧ Below w.heap.size w w' := by
 obtain ⟨a1, c1, rfl, hc1, hz1, ha1⟩ := hl
 obtain ⟨a2, c2, rfl, hc2, hz2, ha2⟩ := hm
 have HL1 : Hid (∀ j, j < l.length → ∃ g off, a1 = some ⟨g, off, none⟩ ∧ ∀ W, Below w.heap.size w W → W.cell? ⟨g, off + j, none⟩ = some (.int .u8 (l.getD j 0))) := fun j hj => by
  obtain ⟨g, off, e, hg, hc⟩ := ha1 (by intro e; rw [e] at hj; simp at hj)
  refine ⟨g, off, e, fun W hb => ?_⟩
  have q := hc j hj
  rw [hb.cell (p := ⟨g, off + j, none⟩) hg]
  simpa using q
 have HL2 : Hid (∀ j, j < l.length → ∃ g off, a2 = some ⟨g, off, none⟩ ∧ ∀ W, Below w.heap.size w W → W.cell? ⟨g, off + j, none⟩ = some (.int .u8 (m.getD j 0))) := fun j hj => by
  obtain ⟨g, off, e, hg, hc⟩ := ha2 (by intro e; rw [e] at hlen; simp at hlen; omega)
  refine ⟨g, off, e, fun W hb => ?_⟩
  have q := hc j (by omega)
  rw [hb.cell (p := ⟨g, off + j, none⟩) hg]
  simpa using q
 have HRR := Hid.mk' hR
 have hle := Hid.mk' hmax
 have hcap1 : l.length ≤ c1 := hc1
 have hcap2 : l.length ≤ c2 := by omega
 rw [hlen]
 clear ha1 ha2 hc1 hc2 hz1 hz2 hR hmax hlen
 go_enter func18, ntmps18
 go_wp2
 --@R4
 go_loopw [9] (fun vi wr => ∃ j : Nat, j ≤ l.length ∧ vi = .int .i64 j ∧ Hid (Below w.heap.size w wr)) (fun i _ => l.length - (intOf i).toNat)
 case atStart => exact ⟨0, Nat.zero_le _, rfl, ZqD _ _⟩
 case round =>
  obtain ⟨j, hj, rfl, HBw⟩ := hrel
  by_cases hlt : j < l.length
  ·have hltI : (j : Int) < (l.length : Int) := by omega
   obtain ⟨g1, o1, rfl, k1'⟩ := HL1.out j hlt
   obtain ⟨g2, o2, rfl, k2'⟩ := HL2.out j hlt
   have HK1 := Hid.mk' k1'
   have HK2 := Hid.mk' k2'
   clear k1' k2'
   have hjm : (j : Int) ≤ 1000000 := by have := hle.out; omega
   have hRj := HRR.out j hlt
   have ew : IntKind.u64.wrap (j : Int) = (j : Int) := iY (by omega) (by omega)
   have ea : IntKind.u64.wrap (2147483648 + (j : Int)) = 2147483648 + (j : Int) := iY (by omega) (by omega)
   have ez : IntKind.u64.wrap (z : Int) = (z : Int) := iY (by omega) (by omega)
   have HES : Hid (n64 ad ≤ 2147483648 + (j : Int) → IntKind.u64.wrap (2147483648 + (j : Int) - n64 ad) = 2147483648 + (j : Int) - n64 ad) := fun h => iY (by omega) (by have := bF ad; omega)
   generalize l.getD j 0 = x1 at HK1 hRj
   generalize m.getD j 0 = x2 at HK2 hRj
   have HRJ := Hid.mk' hRj
   clear hRj
   --@R6
   go_upto_region 7 with fail
   go_cut [11] from 26 to 40 (fun v wx => ∃ bb, v = .bool bb ∧ (x2 ≠ x1 → bb = true) ∧ wx = wr)
   case first =>
    have hzI : (0 : Int) ≤ z := by omega
    by_cases h1 : (0 : Int) < z
    ·by_cases h2 : n64 ad ≤ 2147483648 + (j : Int)
     ·have es := HES.out h2
      by_cases h3 : 2147483648 + (j : Int) - n64 ad < z
      ·clear HES HRJ ea ew
       go_wp2
       go_meet
       exact ⟨true, rfl, fun _ => rfl, rfl⟩
      ·have hno : Hid (¬ x2 ≠ x1) := fun e => by have := HRJ.out e; omega
       clear HES HRJ ea ew
       go_wp2
       go_meet
       exact ⟨false, rfl, fun e => absurd e hno.out, rfl⟩
     ·have hno : Hid (¬ x2 ≠ x1) := fun e => by have := HRJ.out e; omega
      clear HES HRJ ea ew
      go_wp2
      go_meet
      exact ⟨false, rfl, fun e => absurd e hno.out, rfl⟩
    ·have hno : Hid (¬ x2 ≠ x1) := fun e => by have := HRJ.out e; omega
     clear HES HRJ ea ew
     go_wp2
     go_meet
     exact ⟨false, rfl, fun e => absurd e hno.out, rfl⟩
   case rest =>
    obtain ⟨bb, rfl, hbb, hwc⟩ := hcut
    have hwc2 := hwc.symm
    subst hwc2
    clear HES HRJ ea ez ew
    have k1 := HK1.out wr HBw.out
    have k2 := HK2.out wr HBw.out
    --@R8
    by_cases hd : x2 = x1
    ·subst hd
     go_upto_region 8 with fail
     go_quiet (fail)
     go_wp2
     go_roundw
     ·exact ⟨j + 1, by omega, by go_num, below_drewN HBw.out _⟩
     ·simp only [intOf]; omega
    ·have hbt := hbb hd
     subst hbt
     have hne : (x1 != x2) = true := by rw [bne_iff_ne]; exact fun e => hd e.symm
     go_upto_region 8 with fail
     go_quiet (fail)
     go_wp2
     go_roundw
     ·exact ⟨j + 1, by omega, by go_num, below_drewN HBw.out _⟩
     ·simp only [intOf]; omega
  ·have hltI : ¬ (j : Int) < (l.length : Int) := by omega
   go_wp2
   go_ret
   exact ⟨rfl, HBw.out⟩
theorem tL (op : Int) (h : 56 ≤ op ∧ op ≤ 61) (w : World) : Calls prog 19 #[.int .i64 op] w fun e w' => e = .returned (.bool true) ∧ w' = w := by
 obtain ⟨h1, h2⟩ := h
 go_enter func19, ntmps19
 go_wp2
 go_ret
 exact ⟨rfl, rfl⟩
def yC (op : Int) (P X : Cp) : Cp := { pc := P.pc, x := P.x, md := if op = 54 then P.md else X.md, wt := if op = 55 then P.wt else X.wt, s := if op = 54 then upd X.s 0 (P.s 0) else X.s, c := X.c, a := X.a, rv := P.rv, ra := P.ra, rs := P.rs }
theorem yC_eq {op : Int} {P X : Cp} (h : Kpo op P X) : (56 ≤ op ∧ op ≤ 61) ∨ yC op P X = P := by
 rcases h with h | ⟨h1, h2, h3, h4, h5, h6⟩
 ·exact .inl h
 ·right
  have e1 : (if op = 54 then P.md else X.md) = P.md := by
   split
   ·rfl
   ·rcases h1 with e | e
    ·contradiction
    ·exact e
  have e2 : (if op = 55 then P.wt else X.wt) = P.wt := by
   split
   ·rfl
   ·rcases h2 with e | e
    ·contradiction
    ·exact e
  have e3 : (if op = 54 then upd X.s 0 (P.s 0) else X.s) = P.s := by
   funext j
   split
   ·unfold upd
    split
    ·rename_i e; rw [e]
    ·rename_i e; exact h3 j e
   ·rcases h4 with e | e
    ·contradiction
    ·by_cases q : j = 0
     ·rw [q]; exact e
     ·exact h3 j q
  unfold yC
  rw [e1, e2, e3, h5, h6]
theorem eC {ops : Array Oper} {rest : List Oper} {o : Oper} {a : Act} {w : World} {Q : Exit → Act → World → Prop} (hw : Region.wanted o (yielded ops a.tmps) = true) (t t2 : TypeId) (x y : Operand) (ho : o.op = .binOp .eql t x y t2)
  (u v : Array Value) (hx : a.eval x = .agg u) (hy : a.eval y = .agg v) (r : Bool) (he : (Op.equalIn 10000 t (.agg u) (.agg v)).run prog w = .ok r w) (hg : (eqGuard .eql t x y (.agg u) (.agg v)).run prog w = .ok () w)
  (h : wpList prog ops Q rest (a.put o.dst (.bool r)) w) : wpList prog ops Q (o :: rest) a w :=
 BigFrame.wpList_want hw fun _ hK => by
  unfold Oper.wp execOp
  simp only [ho, hx, hy]
  go_simp
  exact hK _ _ h
end Go.Proofs.YtddlmenfcbjoaaaGreatDoor
