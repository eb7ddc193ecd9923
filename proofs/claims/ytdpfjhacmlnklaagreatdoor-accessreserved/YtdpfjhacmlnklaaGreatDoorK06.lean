import Derived.Test.YtdpfjhacmlnklaaGreatDoorK05
namespace Go.Proofs.YtdpfjhacmlnklaaGreatDoor
set_option linter.unusedVariables false
set_option maxRecDepth 100000
set_option maxHeartbeats 8000000
open Go.ChangeShapes Go.WideShapes Go.ChangeAt Go.RowKit Go.Deep _root_.Go.Proofs.Tryz
def gB (a z : Int) : Bool := z == 1 && (decide (268435456 ≤ a) && decide (a < 268435464))
def dW (base a z : Int) : Bool := if z = 4 then (a == base || a == base + 4) else if z = 8 then a == base else false
def nI (a z : Int) : Bool := a == 33554432 && z == 4
def qB (a z : Int) : Bool := a == 1048576 && z == 4
theorem qI (g : Nat) (a z : Int) (w : World) : Calls prog 145 #[.pointer (some ⟨g, 0, none⟩), .int .u64 a, .int .i64 z] w fun e w' => e = .returned (.bool (nI a z)) ∧ w' = w := by
 unfold nI
 rcases Bool.eq_false_or_eq_true (a == 33554432) with h1 | h1
 ·go_enter func145, ntmps145
  go_wp2
  go_ret
  exact ⟨by rw [h1]; rfl, rfl⟩
 ·go_enter func145, ntmps145
  go_wp2
  go_ret
  exact ⟨by rw [h1]; rfl, rfl⟩
theorem sC (g : Nat) (a z : Int) (w : World) : Calls prog 142 #[.pointer (some ⟨g, 0, none⟩), .int .u64 a, .int .i64 z] w fun e w' => e = .returned (.bool (qB a z)) ∧ w' = w := by
 unfold qB
 rcases Bool.eq_false_or_eq_true (a == 1048576) with h1 | h1
 ·go_enter func142, ntmps142
  go_wp2
  go_ret
  exact ⟨by rw [h1]; rfl, rfl⟩
 ·go_enter func142, ntmps142
  go_wp2
  go_ret
  exact ⟨by rw [h1]; rfl, rfl⟩
theorem qW (g : Nat) (a z : Int) (w : World) : Calls prog 151 #[.pointer (some ⟨g, 0, none⟩), .int .u64 a, .int .i64 z] w fun e w' => e = .returned (.bool (gB a z)) ∧ w' = w := by
 obtain ⟨b, hb⟩ : ∃ b, b = gB a z := ⟨_, rfl⟩
 rw [← hb]
 have HE : Hid (b = (z == 1 && (decide (268435456 ≤ a) && decide (a < 268435464)))) := hb
 clear hb
 rcases Bool.eq_false_or_eq_true (z == 1) with h1 | h1
 ·rcases Int.lt_or_le a 268435456 with h2 | h2
  ·have HX : Hid (b = false) := by unfold Hid; rw [HE.out, show decide (268435456 ≤ a) = false from decide_eq_false (by omega)]; simp
   go_enter func151, ntmps151
   go_wp2
   go_ret
   exact ⟨by cases HX.out; rfl, rfl⟩
  ·have HX : Hid (b = decide (a < 268435464)) := by unfold Hid; rw [HE.out, h1, show decide (268435456 ≤ a) = true from decide_eq_true h2]; rfl
   go_enter func151, ntmps151
   go_wp2
   go_ret
   exact ⟨by cases HX.out; rfl, rfl⟩
 ·have HX : Hid (b = false) := by unfold Hid; rw [HE.out, h1]; rfl
  go_enter func151, ntmps151
  go_wp2
  go_ret
  exact ⟨by cases HX.out; rfl, rfl⟩
theorem mA (g : Nat) (base a z : Int) (w : World) (hc : w.cell? ⟨g, 0, none⟩ = some (.int .u64 base)) (hb : 0 ≤ base ∧ base ≤ 4294967296) : Calls prog 148 #[.pointer (some ⟨g, 0, none⟩), .int .u64 a, .int .i64 z] w fun e w' => e = .returned (.bool (dW base a z)) ∧ w' = w := by
 have e1 : IntKind.u64.wrap (base + 4) = base + 4 := aU (by omega) (by omega)
 obtain ⟨b, hbb⟩ : ∃ b, b = dW base a z := ⟨_, rfl⟩
 rw [← hbb]
 by_cases h4 : z = 4
 ·subst h4
  have HX : Hid (b = (a == base || a == base + 4)) := by unfold Hid; rw [hbb]; rfl
  clear hbb
  rcases Bool.eq_false_or_eq_true (a == base) with h1 | h1
  ·have HY : Hid (b = true) := by unfold Hid; rw [HX.out, h1]; rfl
   go_enter func148, ntmps148
   go_wp2
   go_ret
   exact ⟨by cases HY.out; rfl, rfl⟩
  ·have HY : Hid (b = (a == base + 4)) := by unfold Hid; rw [HX.out, h1]; rfl
   go_enter func148, ntmps148
   go_wp2
   go_ret
   exact ⟨by cases HY.out; rfl, rfl⟩
 ·by_cases h8 : z = 8
  ·subst h8
   have HX : Hid (b = (a == base)) := by unfold Hid; rw [hbb]; rfl
   clear hbb
   go_enter func148, ntmps148
   go_wp2
   go_ret
   exact ⟨by cases HX.out; rfl, rfl⟩
  ·have e4 : (z == 4) = false := by simpa using h4
   have e8 : (z == 8) = false := by simpa using h8
   have HX : Hid (b = false) := by unfold Hid; rw [hbb, dW, if_neg h4, if_neg h8]
   clear hbb
   go_enter func148, ntmps148
   go_wp2
   go_ret
   exact ⟨by cases HX.out; rfl, rfl⟩
def fnd (n : Nat) (a z : Int) : Nat := if fF n a z then 0 else if gB a z then 1 else if dW 33603576 a z then 2 else if dW 33570816 a z then 3 else if nI a z then 4 else if qB a z then 5 else 6
theorem DP (x0 x1 x2 x3 x4 x5 : Value) (w : World) : (Instr.index 164 (.agg #[x0, x1, x2, x3, x4, x5]) (.int .i64 0)).run prog w = .ok x0 w := by kernel_rfl
theorem DQ (x0 x1 x2 x3 x4 x5 : Value) (w : World) : (Instr.index 164 (.agg #[x0, x1, x2, x3, x4, x5]) (.int .i64 1)).run prog w = .ok x1 w := by kernel_rfl
theorem DR (x0 x1 x2 x3 x4 x5 : Value) (w : World) : (Instr.index 164 (.agg #[x0, x1, x2, x3, x4, x5]) (.int .i64 2)).run prog w = .ok x2 w := by kernel_rfl
theorem DS (x0 x1 x2 x3 x4 x5 : Value) (w : World) : (Instr.index 164 (.agg #[x0, x1, x2, x3, x4, x5]) (.int .i64 3)).run prog w = .ok x3 w := by kernel_rfl
theorem DT (x0 x1 x2 x3 x4 x5 : Value) (w : World) : (Instr.index 164 (.agg #[x0, x1, x2, x3, x4, x5]) (.int .i64 4)).run prog w = .ok x4 w := by kernel_rfl
theorem DU (x0 x1 x2 x3 x4 x5 : Value) (w : World) : (Instr.index 164 (.agg #[x0, x1, x2, x3, x4, x5]) (.int .i64 5)).run prog w = .ok x5 w := by kernel_rfl
theorem jI (a : Addr) (w : World) : (method 307 96 (.pointer (some a)) "anvil/bus.has").run prog w = .ok (136, .pointer (some a)) w := by kernel_rfl
theorem lB (a : Addr) (w : World) : (method 307 100 (.pointer (some a)) "anvil/bus.has").run prog w = .ok (151, .pointer (some a)) w := by kernel_rfl
theorem eX (a : Addr) (w : World) : (method 307 99 (.pointer (some a)) "anvil/bus.has").run prog w = .ok (148, .pointer (some a)) w := by kernel_rfl
theorem lA (a : Addr) (w : World) : (method 307 98 (.pointer (some a)) "anvil/bus.has").run prog w = .ok (145, .pointer (some a)) w := by kernel_rfl
theorem gQ (a : Addr) (w : World) : (method 307 97 (.pointer (some a)) "anvil/bus.has").run prog w = .ok (142, .pointer (some a)) w := by kernel_rfl
def hsf (n : Nat) (a z : Int) : Nat → Bool
 | 0 => fF n a z
 | 1 => gB a z
 | 2 => dW 33603576 a z
 | 3 => dW 33570816 a z
 | 4 => nI a z
 | 5 => qB a z
 | _ => false
theorem zJ {n : Nat} {a z : Int} : ∀ {k : Nat}, k < 6 → (∀ j, j < k → hsf n a z j = false) → hsf n a z k = true → fnd n a z = k
 | 0, _, hf, ht => by
  have t : fF n a z = true := ht
  simp [fnd, t]
 | 1, _, hf, ht => by
  have f0 : fF n a z = false := hf 0 (by omega)
  have t : gB a z = true := ht
  simp [fnd, f0, t]
 | 2, _, hf, ht => by
  have f0 : fF n a z = false := hf 0 (by omega)
  have f1 : gB a z = false := hf 1 (by omega)
  have t : dW 33603576 a z = true := ht
  simp [fnd, f0, f1, t]
 | 3, _, hf, ht => by
  have f0 : fF n a z = false := hf 0 (by omega)
  have f1 : gB a z = false := hf 1 (by omega)
  have f2 : dW 33603576 a z = false := hf 2 (by omega)
  have t : dW 33570816 a z = true := ht
  simp [fnd, f0, f1, f2, t]
 | 4, _, hf, ht => by
  have f0 : fF n a z = false := hf 0 (by omega)
  have f1 : gB a z = false := hf 1 (by omega)
  have f2 : dW 33603576 a z = false := hf 2 (by omega)
  have f3 : dW 33570816 a z = false := hf 3 (by omega)
  have t : nI a z = true := ht
  simp [fnd, f0, f1, f2, f3, t]
 | 5, _, hf, ht => by
  have f0 : fF n a z = false := hf 0 (by omega)
  have f1 : gB a z = false := hf 1 (by omega)
  have f2 : dW 33603576 a z = false := hf 2 (by omega)
  have f3 : dW 33570816 a z = false := hf 3 (by omega)
  have f4 : nI a z = false := hf 4 (by omega)
  have t : qB a z = true := ht
  simp [fnd, f0, f1, f2, f3, f4, t]
 | _ + 6, h, _, _ => by omega
theorem sH {n : Nat} {a z : Int} (hf : ∀ j, j < 6 → hsf n a z j = false) : fnd n a z = 6 := by
 have f0 : fF n a z = false := hf 0 (by omega)
 have f1 : gB a z = false := hf 1 (by omega)
 have f2 : dW 33603576 a z = false := hf 2 (by omega)
 have f3 : dW 33570816 a z = false := hf 3 (by omega)
 have f4 : nI a z = false := hf 4 (by omega)
 have f5 : qB a z = false := hf 5 (by omega)
 simp [fnd, f0, f1, f2, f3, f4, f5]
def fC (L : Lay) (k : Nat) : Value := (dvs L).getD k .nilIface
theorem BH {B : Nat} {L : Lay} {S : St} {w : World} (h : PB B L S w) (hn : S.ram.length ≤ 65536) (a z : Int) (ha : 0 ≤ a ∧ a ≤ 18446744073709551615) (hz : -9223372036854775808 ≤ z ∧ z ≤ 9223372036854775807) :
  (Calls prog 136 #[.pointer (some ⟨L.m, 0, none⟩), .int .u64 a, .int .i64 z] w fun e w' => e = .returned (.bool (hsf S.ram.length a z 0)) ∧ Below w.heap.size w w') ∧ (Calls prog 151 #[.pointer (some ⟨L.u, 0, none⟩), .int .u64 a, .int .i64 z] w fun e w' => e = .returned (.bool (hsf S.ram.length a z 1)) ∧ Below w.heap.size w w') ∧ (Calls prog 148 #[.pointer (some ⟨L.ck, 0, none⟩), .int .u64 a, .int .i64 z] w fun e w' => e = .returned (.bool (hsf S.ram.length a z 2)) ∧ Below w.heap.size w w') ∧ (Calls prog 148 #[.pointer (some ⟨L.cm, 0, none⟩), .int .u64 a, .int .i64 z] w fun e w' => e = .returned (.bool (hsf S.ram.length a z 3)) ∧ Below w.heap.size w w') ∧ (Calls prog 145 #[.pointer (some ⟨L.sw, 0, none⟩), .int .u64 a, .int .i64 z] w fun e w' => e = .returned (.bool (hsf S.ram.length a z 4)) ∧ Below w.heap.size w w') ∧ (Calls prog 142 #[.pointer (some ⟨L.pw, 0, none⟩), .int .u64 a, .int .i64 z] w fun e w' => e = .returned (.bool (hsf S.ram.length a z 5)) ∧ Below w.heap.size w w') := by
 have same : ∀ {f : FuncId} {args : Array Value} {b : Bool}, (Calls prog f args w fun e w' => e = .returned (.bool b) ∧ w' = w) → Calls prog f args w fun e w' => e = .returned (.bool b) ∧ Below w.heap.size w w' := fun h => h.mono fun e w' ⟨h1, h2⟩ => ⟨h1, by rw [h2]; exact Below.refl _ _⟩
 have c := h.cl
 have hr := Byt.of_own h.wr
 obtain ⟨ar, cr, er, _⟩ := hr
 refine ⟨?_, same (qW _ a z w), same (mA _ 33603576 a z w c.k0 (by omega)), same (mA _ 33570816 a z w c.c0 (by omega)), same (qI _ a z w), same (sC _ a z w)⟩
 exact sZ L.m S.ram.length cr ar a z w (by rw [← er]; exact c.m0) hn ha hz
theorem cT {B : Nat} {L : Lay} {S : St} (w : World) (h : PB B L S w) (hn : S.ram.length ≤ 65536) (a z : Int) (ha : 0 ≤ a ∧ a ≤ 18446744073709551615) (hz : -9223372036854775808 ≤ z ∧ z ≤ 9223372036854775807) :
  Calls prog 62 #[.pointer (some ⟨L.b, 0, none⟩), .int .u64 a, .int .i64 z] w fun e w' => e = .returned (.tuple #[fC L (fnd S.ram.length a z), .bool (decide (fnd S.ram.length a z < 6))]) ∧ Below w.heap.size w w' := by
 have HD := pW w h
 have HALL : Hid (∀ w', Below w.heap.size w w' → _) := fun w' hb => BH (h.later hb) hn a z ha hz
 have HAT : Hid (∀ {k : Nat}, k < 6 → (∀ j, j < k → hsf S.ram.length a z j = false) → hsf S.ram.length a z k = true → fnd S.ram.length a z = k) := zJ
 have HNO : Hid ((∀ j, j < 6 → hsf S.ram.length a z j = false) → fnd S.ram.length a z = 6) := sH
 obtain ⟨R, hR⟩ : ∃ R, R = Value.tuple #[fC L (fnd S.ram.length a z), .bool (decide (fnd S.ram.length a z < 6))] := ⟨_, rfl⟩
 rw [← hR]
 have HR := hid hR
 obtain ⟨f, hf⟩ : ∃ f, f = hsf S.ram.length a z := ⟨_, rfl⟩
 rw [← hf] at HALL HAT HNO
 unfold dvs pt at HD
 clear h hR hf ha hz hn
 go_enter func62, ntmps62
 go_wp2_with (go_at_call 82; refine HD.mono ?_; rintro e w1 ⟨rfl, hb1⟩)
 go_loopw [12] (fun i wr => ∃ k : Nat, k ≤ 6 ∧ i = .int .i64 k ∧ Hid (∀ j, j < k → f j = false) ∧ Hid (Below w.heap.size w wr)) (fun i _ => 6 - (intOf i).toNat)
 case atStart => exact ⟨0, Nat.zero_le _, rfl, fun j hj => absurd hj (Nat.not_lt_zero _), hb1⟩
 case round =>
  obtain ⟨k, hk, rfl, hfl, hbr⟩ := hrel
  obtain ⟨HM0, HM1, HM2, HM3, HM4, HM5⟩ := HALL.out wr hbr.out
  by_cases hlt : k < 6
  ·have hk6 : k = 0 ∨ k = 1 ∨ k = 2 ∨ k = 3 ∨ k = 4 ∨ k = 5 := by omega
   rcases hk6 with rfl | rfl | rfl | rfl | rfl | rfl
   ·have hix := DP
    have hmt := jI
    have HH := HM0
    clear HM0 HM1 HM2 HM3 HM4 HM5
    cases hv : f 0 with
    | true =>
     rw [hv] at HH
     have HV : Hid (f 0 = true) := hv
     clear hv
     go_wp2_with (go_at_call 136; refine HH.mono ?_; rintro e w2 ⟨rfl, hb2⟩)
     go_ret2
     exact ⟨by rw [HR.out, HAT.out hlt hfl.out HV.out]; rfl, hbr.out.trans (hb2.mono hbr.out.size)⟩
    | false =>
     rw [hv] at HH
     have HV : Hid (f 0 = false) := hv
     clear hv
     go_wp2_with (go_at_call 136; refine HH.mono ?_; rintro e w2 ⟨rfl, hb2⟩)
     go_roundw
     case rel =>
      refine ⟨0 + 1, by omega, by go_num, fun j hj => ?_, hbr.out.trans (hb2.mono hbr.out.size)⟩
      by_cases e : j = 0
      ·rw [e]; exact HV.out
      ·exact hfl.out j (by omega)
     case measure => simp [intOf]
   ·have hix := DQ
    have hmt := lB
    have HH := HM1
    clear HM0 HM1 HM2 HM3 HM4 HM5
    cases hv : f 1 with
    | true =>
     rw [hv] at HH
     have HV : Hid (f 1 = true) := hv
     clear hv
     go_wp2_with (go_at_call 151; refine HH.mono ?_; rintro e w2 ⟨rfl, hb2⟩)
     go_ret2
     exact ⟨by rw [HR.out, HAT.out hlt hfl.out HV.out]; rfl, hbr.out.trans (hb2.mono hbr.out.size)⟩
    | false =>
     rw [hv] at HH
     have HV : Hid (f 1 = false) := hv
     clear hv
     go_wp2_with (go_at_call 151; refine HH.mono ?_; rintro e w2 ⟨rfl, hb2⟩)
     go_roundw
     case rel =>
      refine ⟨1 + 1, by omega, by go_num, fun j hj => ?_, hbr.out.trans (hb2.mono hbr.out.size)⟩
      by_cases e : j = 1
      ·rw [e]; exact HV.out
      ·exact hfl.out j (by omega)
     case measure => simp [intOf]
   ·have hix := DR
    have hmt := eX
    have HH := HM2
    clear HM0 HM1 HM2 HM3 HM4 HM5
    cases hv : f 2 with
    | true =>
     rw [hv] at HH
     have HV : Hid (f 2 = true) := hv
     clear hv
     go_wp2_with (go_at_call 148; refine HH.mono ?_; rintro e w2 ⟨rfl, hb2⟩)
     go_ret2
     exact ⟨by rw [HR.out, HAT.out hlt hfl.out HV.out]; rfl, hbr.out.trans (hb2.mono hbr.out.size)⟩
    | false =>
     rw [hv] at HH
     have HV : Hid (f 2 = false) := hv
     clear hv
     go_wp2_with (go_at_call 148; refine HH.mono ?_; rintro e w2 ⟨rfl, hb2⟩)
     go_roundw
     case rel =>
      refine ⟨2 + 1, by omega, by go_num, fun j hj => ?_, hbr.out.trans (hb2.mono hbr.out.size)⟩
      by_cases e : j = 2
      ·rw [e]; exact HV.out
      ·exact hfl.out j (by omega)
     case measure => simp [intOf]
   ·have hix := DS
    have hmt := eX
    have HH := HM3
    clear HM0 HM1 HM2 HM3 HM4 HM5
    cases hv : f 3 with
    | true =>
     rw [hv] at HH
     have HV : Hid (f 3 = true) := hv
     clear hv
     go_wp2_with (go_at_call 148; refine HH.mono ?_; rintro e w2 ⟨rfl, hb2⟩)
     go_ret2
     exact ⟨by rw [HR.out, HAT.out hlt hfl.out HV.out]; rfl, hbr.out.trans (hb2.mono hbr.out.size)⟩
    | false =>
     rw [hv] at HH
     have HV : Hid (f 3 = false) := hv
     clear hv
     go_wp2_with (go_at_call 148; refine HH.mono ?_; rintro e w2 ⟨rfl, hb2⟩)
     go_roundw
     case rel =>
      refine ⟨3 + 1, by omega, by go_num, fun j hj => ?_, hbr.out.trans (hb2.mono hbr.out.size)⟩
      by_cases e : j = 3
      ·rw [e]; exact HV.out
      ·exact hfl.out j (by omega)
     case measure => simp [intOf]
   ·have hix := DT
    have hmt := lA
    have HH := HM4
    clear HM0 HM1 HM2 HM3 HM4 HM5
    cases hv : f 4 with
    | true =>
     rw [hv] at HH
     have HV : Hid (f 4 = true) := hv
     clear hv
     go_wp2_with (go_at_call 145; refine HH.mono ?_; rintro e w2 ⟨rfl, hb2⟩)
     go_ret2
     exact ⟨by rw [HR.out, HAT.out hlt hfl.out HV.out]; rfl, hbr.out.trans (hb2.mono hbr.out.size)⟩
    | false =>
     rw [hv] at HH
     have HV : Hid (f 4 = false) := hv
     clear hv
     go_wp2_with (go_at_call 145; refine HH.mono ?_; rintro e w2 ⟨rfl, hb2⟩)
     go_roundw
     case rel =>
      refine ⟨4 + 1, by omega, by go_num, fun j hj => ?_, hbr.out.trans (hb2.mono hbr.out.size)⟩
      by_cases e : j = 4
      ·rw [e]; exact HV.out
      ·exact hfl.out j (by omega)
     case measure => simp [intOf]
   ·have hix := DU
    have hmt := gQ
    have HH := HM5
    clear HM0 HM1 HM2 HM3 HM4 HM5
    cases hv : f 5 with
    | true =>
     rw [hv] at HH
     have HV : Hid (f 5 = true) := hv
     clear hv
     go_wp2_with (go_at_call 142; refine HH.mono ?_; rintro e w2 ⟨rfl, hb2⟩)
     go_ret2
     exact ⟨by rw [HR.out, HAT.out hlt hfl.out HV.out]; rfl, hbr.out.trans (hb2.mono hbr.out.size)⟩
    | false =>
     rw [hv] at HH
     have HV : Hid (f 5 = false) := hv
     clear hv
     go_wp2_with (go_at_call 142; refine HH.mono ?_; rintro e w2 ⟨rfl, hb2⟩)
     go_roundw
     case rel =>
      refine ⟨5 + 1, by omega, by go_num, fun j hj => ?_, hbr.out.trans (hb2.mono hbr.out.size)⟩
      by_cases e : j = 5
      ·rw [e]; exact HV.out
      ·exact hfl.out j (by omega)
     case measure => simp [intOf]
  ·have hk6 : k = 6 := by omega
   subst hk6
   clear HM0 HM1 HM2 HM3 HM4 HM5
   go_wp2
   go_ret2
   exact ⟨by rw [HR.out, HNO.out hfl.out]; rfl, hbr.out⟩
end Go.Proofs.YtdpfjhacmlnklaaGreatDoor
