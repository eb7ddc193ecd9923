import Derived.Test.YtddlmenfcbjoaaaGreatDoorK05
namespace Go.Proofs.YtddlmenfcbjoaaaGreatDoor
set_option linter.unusedVariables false
set_option maxRecDepth 100000
set_option maxHeartbeats 8000000
open Go.ChangeShapes Go.WideShapes Go.ChangeAt Go.RowKit Go.Deep _root_.Go.Proofs.Tryz
def mU (a z : Int) : Bool := z == 1 && (decide (268435456 ≤ a) && decide (a < 268435464))
def iM (base a z : Int) : Bool := if z = 4 then (a == base || a == base + 4) else if z = 8 then a == base else false
def xU (a z : Int) : Bool := a == 33554432 && z == 4
def CT (a z : Int) : Bool := a == 1048576 && z == 4
theorem DB (g : Nat) (a z : Int) (w : World) : Calls prog 268 #[.pointer (some ⟨g, 0, none⟩), .int .u64 a, .int .i64 z] w fun e w' => e = .returned (.bool (xU a z)) ∧ w' = w := by
 unfold xU
 rcases Bool.eq_false_or_eq_true (a == 33554432) with h1 | h1
 ·go_enter func268, ntmps268
  go_wp2
  go_ret
  exact ⟨by rw [h1]; rfl, rfl⟩
 ·go_enter func268, ntmps268
  go_wp2
  go_ret
  exact ⟨by rw [h1]; rfl, rfl⟩
theorem GT (g : Nat) (a z : Int) (w : World) : Calls prog 265 #[.pointer (some ⟨g, 0, none⟩), .int .u64 a, .int .i64 z] w fun e w' => e = .returned (.bool (CT a z)) ∧ w' = w := by
 unfold CT
 rcases Bool.eq_false_or_eq_true (a == 1048576) with h1 | h1
 ·go_enter func265, ntmps265
  go_wp2
  go_ret
  exact ⟨by rw [h1]; rfl, rfl⟩
 ·go_enter func265, ntmps265
  go_wp2
  go_ret
  exact ⟨by rw [h1]; rfl, rfl⟩
theorem EC (g : Nat) (a z : Int) (w : World) : Calls prog 274 #[.pointer (some ⟨g, 0, none⟩), .int .u64 a, .int .i64 z] w fun e w' => e = .returned (.bool (mU a z)) ∧ w' = w := by
 obtain ⟨b, hb⟩ : ∃ b, b = mU a z := ⟨_, rfl⟩
 rw [← hb]
 have HE : Hid (b = (z == 1 && (decide (268435456 ≤ a) && decide (a < 268435464)))) := hb
 clear hb
 rcases Bool.eq_false_or_eq_true (z == 1) with h1 | h1
 ·rcases Int.lt_or_le a 268435456 with h2 | h2
  ·have HX : Hid (b = false) := by unfold Hid; rw [HE.out, show decide (268435456 ≤ a) = false from decide_eq_false (by omega)]; simp
   go_enter func274, ntmps274
   go_wp2
   go_ret
   exact ⟨by cases HX.out; rfl, rfl⟩
  ·have HX : Hid (b = decide (a < 268435464)) := by unfold Hid; rw [HE.out, h1, show decide (268435456 ≤ a) = true from decide_eq_true h2]; rfl
   go_enter func274, ntmps274
   go_wp2
   go_ret
   exact ⟨by cases HX.out; rfl, rfl⟩
 ·have HX : Hid (b = false) := by unfold Hid; rw [HE.out, h1]; rfl
  go_enter func274, ntmps274
  go_wp2
  go_ret
  exact ⟨by cases HX.out; rfl, rfl⟩
theorem vH (g : Nat) (base a z : Int) (w : World) (hc : w.cell? ⟨g, 0, none⟩ = some (.int .u64 base)) (hb : 0 ≤ base ∧ base ≤ 4294967296) : Calls prog 271 #[.pointer (some ⟨g, 0, none⟩), .int .u64 a, .int .i64 z] w fun e w' => e = .returned (.bool (iM base a z)) ∧ w' = w := by
 have e1 : IntKind.u64.wrap (base + 4) = base + 4 := bI (by omega) (by omega)
 obtain ⟨b, hbb⟩ : ∃ b, b = iM base a z := ⟨_, rfl⟩
 rw [← hbb]
 by_cases h4 : z = 4
 ·subst h4
  have HX : Hid (b = (a == base || a == base + 4)) := by unfold Hid; rw [hbb]; rfl
  clear hbb
  rcases Bool.eq_false_or_eq_true (a == base) with h1 | h1
  ·have HY : Hid (b = true) := by unfold Hid; rw [HX.out, h1]; rfl
   go_enter func271, ntmps271
   go_wp2
   go_ret
   exact ⟨by cases HY.out; rfl, rfl⟩
  ·have HY : Hid (b = (a == base + 4)) := by unfold Hid; rw [HX.out, h1]; rfl
   go_enter func271, ntmps271
   go_wp2
   go_ret
   exact ⟨by cases HY.out; rfl, rfl⟩
 ·by_cases h8 : z = 8
  ·subst h8
   have HX : Hid (b = (a == base)) := by unfold Hid; rw [hbb]; rfl
   clear hbb
   go_enter func271, ntmps271
   go_wp2
   go_ret
   exact ⟨by cases HX.out; rfl, rfl⟩
  ·have e4 : (z == 4) = false := by simpa using h4
   have e8 : (z == 8) = false := by simpa using h8
   have HX : Hid (b = false) := by unfold Hid; rw [hbb, iM, if_neg h4, if_neg h8]
   clear hbb
   go_enter func271, ntmps271
   go_wp2
   go_ret
   exact ⟨by cases HX.out; rfl, rfl⟩
def fnd (n : Nat) (a z : Int) : Nat := if jC n a z then 0 else if mU a z then 1 else if iM 33603576 a z then 2 else if iM 33570816 a z then 3 else if xU a z then 4 else if CT a z then 5 else 6
theorem idx_0 (x0 x1 x2 x3 x4 x5 : Value) (w : World) : (Instr.index 234 (.agg #[x0, x1, x2, x3, x4, x5]) (.int .i64 0)).run prog w = .ok x0 w := by kernel_rfl
theorem idx_1 (x0 x1 x2 x3 x4 x5 : Value) (w : World) : (Instr.index 234 (.agg #[x0, x1, x2, x3, x4, x5]) (.int .i64 1)).run prog w = .ok x1 w := by kernel_rfl
theorem idx_2 (x0 x1 x2 x3 x4 x5 : Value) (w : World) : (Instr.index 234 (.agg #[x0, x1, x2, x3, x4, x5]) (.int .i64 2)).run prog w = .ok x2 w := by kernel_rfl
theorem idx_3 (x0 x1 x2 x3 x4 x5 : Value) (w : World) : (Instr.index 234 (.agg #[x0, x1, x2, x3, x4, x5]) (.int .i64 3)).run prog w = .ok x3 w := by kernel_rfl
theorem idx_4 (x0 x1 x2 x3 x4 x5 : Value) (w : World) : (Instr.index 234 (.agg #[x0, x1, x2, x3, x4, x5]) (.int .i64 4)).run prog w = .ok x4 w := by kernel_rfl
theorem idx_5 (x0 x1 x2 x3 x4 x5 : Value) (w : World) : (Instr.index 234 (.agg #[x0, x1, x2, x3, x4, x5]) (.int .i64 5)).run prog w = .ok x5 w := by kernel_rfl
theorem qI (a : Addr) (w : World) : (method 361 79 (.pointer (some a)) "anvil/bus.has").run prog w = .ok (259, .pointer (some a)) w := by kernel_rfl
theorem tY (a : Addr) (w : World) : (method 361 83 (.pointer (some a)) "anvil/bus.has").run prog w = .ok (274, .pointer (some a)) w := by kernel_rfl
theorem kP (a : Addr) (w : World) : (method 361 82 (.pointer (some a)) "anvil/bus.has").run prog w = .ok (271, .pointer (some a)) w := by kernel_rfl
theorem tX (a : Addr) (w : World) : (method 361 81 (.pointer (some a)) "anvil/bus.has").run prog w = .ok (268, .pointer (some a)) w := by kernel_rfl
theorem nM (a : Addr) (w : World) : (method 361 80 (.pointer (some a)) "anvil/bus.has").run prog w = .ok (265, .pointer (some a)) w := by kernel_rfl
def hsf (n : Nat) (a z : Int) : Nat → Bool
 | 0 => jC n a z
 | 1 => mU a z
 | 2 => iM 33603576 a z
 | 3 => iM 33570816 a z
 | 4 => xU a z
 | 5 => CT a z
 | _ => false
theorem WG {n : Nat} {a z : Int} : ∀ {k : Nat}, k < 6 → (∀ j, j < k → hsf n a z j = false) → hsf n a z k = true → fnd n a z = k
 | 0, _, hf, ht => by
  have t : jC n a z = true := ht
  simp [fnd, t]
 | 1, _, hf, ht => by
  have f0 : jC n a z = false := hf 0 (by omega)
  have t : mU a z = true := ht
  simp [fnd, f0, t]
 | 2, _, hf, ht => by
  have f0 : jC n a z = false := hf 0 (by omega)
  have f1 : mU a z = false := hf 1 (by omega)
  have t : iM 33603576 a z = true := ht
  simp [fnd, f0, f1, t]
 | 3, _, hf, ht => by
  have f0 : jC n a z = false := hf 0 (by omega)
  have f1 : mU a z = false := hf 1 (by omega)
  have f2 : iM 33603576 a z = false := hf 2 (by omega)
  have t : iM 33570816 a z = true := ht
  simp [fnd, f0, f1, f2, t]
 | 4, _, hf, ht => by
  have f0 : jC n a z = false := hf 0 (by omega)
  have f1 : mU a z = false := hf 1 (by omega)
  have f2 : iM 33603576 a z = false := hf 2 (by omega)
  have f3 : iM 33570816 a z = false := hf 3 (by omega)
  have t : xU a z = true := ht
  simp [fnd, f0, f1, f2, f3, t]
 | 5, _, hf, ht => by
  have f0 : jC n a z = false := hf 0 (by omega)
  have f1 : mU a z = false := hf 1 (by omega)
  have f2 : iM 33603576 a z = false := hf 2 (by omega)
  have f3 : iM 33570816 a z = false := hf 3 (by omega)
  have f4 : xU a z = false := hf 4 (by omega)
  have t : CT a z = true := ht
  simp [fnd, f0, f1, f2, f3, f4, t]
 | _ + 6, h, _, _ => by omega
theorem HU {n : Nat} {a z : Int} (hf : ∀ j, j < 6 → hsf n a z j = false) : fnd n a z = 6 := by
 have f0 : jC n a z = false := hf 0 (by omega)
 have f1 : mU a z = false := hf 1 (by omega)
 have f2 : iM 33603576 a z = false := hf 2 (by omega)
 have f3 : iM 33570816 a z = false := hf 3 (by omega)
 have f4 : xU a z = false := hf 4 (by omega)
 have f5 : CT a z = false := hf 5 (by omega)
 simp [fnd, f0, f1, f2, f3, f4, f5]
def kW (L : Lay) (k : Nat) : Value := (dvs L).getD k .nilIface
theorem YF {B : Nat} {L : Lay} {S : St} {w : World} (h : PB B L S w) (hn : S.ram.length ≤ 65536) (a z : Int) (ha : 0 ≤ a ∧ a ≤ 18446744073709551615) (hz : -9223372036854775808 ≤ z ∧ z ≤ 9223372036854775807) :
  (Calls prog 259 #[.pointer (some ⟨L.m, 0, none⟩), .int .u64 a, .int .i64 z] w fun e w' => e = .returned (.bool (hsf S.ram.length a z 0)) ∧ Below w.heap.size w w') ∧ (Calls prog 274 #[.pointer (some ⟨L.u, 0, none⟩), .int .u64 a, .int .i64 z] w fun e w' => e = .returned (.bool (hsf S.ram.length a z 1)) ∧ Below w.heap.size w w') ∧ (Calls prog 271 #[.pointer (some ⟨L.ck, 0, none⟩), .int .u64 a, .int .i64 z] w fun e w' => e = .returned (.bool (hsf S.ram.length a z 2)) ∧ Below w.heap.size w w') ∧ (Calls prog 271 #[.pointer (some ⟨L.cm, 0, none⟩), .int .u64 a, .int .i64 z] w fun e w' => e = .returned (.bool (hsf S.ram.length a z 3)) ∧ Below w.heap.size w w') ∧ (Calls prog 268 #[.pointer (some ⟨L.sw, 0, none⟩), .int .u64 a, .int .i64 z] w fun e w' => e = .returned (.bool (hsf S.ram.length a z 4)) ∧ Below w.heap.size w w') ∧ (Calls prog 265 #[.pointer (some ⟨L.pw, 0, none⟩), .int .u64 a, .int .i64 z] w fun e w' => e = .returned (.bool (hsf S.ram.length a z 5)) ∧ Below w.heap.size w w') := by
 have same : ∀ {f : FuncId} {args : Array Value} {b : Bool}, (Calls prog f args w fun e w' => e = .returned (.bool b) ∧ w' = w) → Calls prog f args w fun e w' => e = .returned (.bool b) ∧ Below w.heap.size w w' := fun h => h.mono fun e w' ⟨h1, h2⟩ => ⟨h1, by rw [h2]; exact ZqD _ _⟩
 have c := h.cl
 have hr := Byt.of_own h.wr
 obtain ⟨ar, cr, er, _⟩ := hr
 refine ⟨?_, same (EC _ a z w), same (vH _ 33603576 a z w c.k0 (by omega)), same (vH _ 33570816 a z w c.c0 (by omega)), same (DB _ a z w), same (GT _ a z w)⟩
 exact IW L.m S.ram.length cr ar a z w (by rw [← er]; exact c.m0) hn ha hz
theorem fI {B : Nat} {L : Lay} {S : St} (w : World) (h : PB B L S w) (hn : S.ram.length ≤ 65536) (a z : Int) (ha : 0 ≤ a ∧ a ≤ 18446744073709551615) (hz : -9223372036854775808 ≤ z ∧ z ≤ 9223372036854775807) :
  Calls prog 220 #[.pointer (some ⟨L.b, 0, none⟩), .int .u64 a, .int .i64 z] w fun e w' => e = .returned (.tuple #[kW L (fnd S.ram.length a z), .bool (decide (fnd S.ram.length a z < 6))]) ∧ Below w.heap.size w w' := by
 have HD := CN w h
 have HALL : Hid (∀ w', Below w.heap.size w w' → _) := fun w' hb => YF (h.later hb) hn a z ha hz
 have HAT : Hid (∀ {k : Nat}, k < 6 → (∀ j, j < k → hsf S.ram.length a z j = false) → hsf S.ram.length a z k = true → fnd S.ram.length a z = k) := WG
 have HNO : Hid ((∀ j, j < 6 → hsf S.ram.length a z j = false) → fnd S.ram.length a z = 6) := HU
 obtain ⟨R, hR⟩ : ∃ R, R = Value.tuple #[kW L (fnd S.ram.length a z), .bool (decide (fnd S.ram.length a z < 6))] := ⟨_, rfl⟩
 rw [← hR]
 have HR := hid hR
 obtain ⟨f, hf⟩ : ∃ f, f = hsf S.ram.length a z := ⟨_, rfl⟩
 rw [← hf] at HALL HAT HNO
 unfold dvs pt at HD
 clear h hR hf ha hz hn
 go_enter func220, ntmps220
 go_wp2_with (go_at_call 233; refine HD.mono ?_; rintro e w1 ⟨rfl, hb1⟩)
 go_loopw [12] (fun i wr => ∃ k : Nat, k ≤ 6 ∧ i = .int .i64 k ∧ Hid (∀ j, j < k → f j = false) ∧ Hid (Below w.heap.size w wr)) (fun i _ => 6 - (intOf i).toNat)
 case atStart => exact ⟨0, Nat.zero_le _, rfl, fun j hj => absurd hj (Nat.not_lt_zero _), hb1⟩
 case round =>
  obtain ⟨k, hk, rfl, hfl, hbr⟩ := hrel
  obtain ⟨HM0, HM1, HM2, HM3, HM4, HM5⟩ := HALL.out wr hbr.out
  by_cases hlt : k < 6
  ·have hk6 : k = 0 ∨ k = 1 ∨ k = 2 ∨ k = 3 ∨ k = 4 ∨ k = 5 := by omega
   rcases hk6 with rfl | rfl | rfl | rfl | rfl | rfl
   ·have hix := idx_0
    have hmt := qI
    have HH := HM0
    clear HM0 HM1 HM2 HM3 HM4 HM5
    cases hv : f 0 with
    | true =>
     rw [hv] at HH
     have HV : Hid (f 0 = true) := hv
     clear hv
     go_wp2_with (go_at_call 259; refine HH.mono ?_; rintro e w2 ⟨rfl, hb2⟩)
     go_ret2
     exact ⟨by rw [HR.out, HAT.out hlt hfl.out HV.out]; rfl, hbr.out.trans (hb2.mono hbr.out.size)⟩
    | false =>
     rw [hv] at HH
     have HV : Hid (f 0 = false) := hv
     clear hv
     go_wp2_with (go_at_call 259; refine HH.mono ?_; rintro e w2 ⟨rfl, hb2⟩)
     go_roundw
     case rel =>
      refine ⟨0 + 1, by omega, by go_num, fun j hj => ?_, hbr.out.trans (hb2.mono hbr.out.size)⟩
      by_cases e : j = 0
      ·rw [e]; exact HV.out
      ·exact hfl.out j (by omega)
     case measure => simp [intOf]
   ·have hix := idx_1
    have hmt := tY
    have HH := HM1
    clear HM0 HM1 HM2 HM3 HM4 HM5
    cases hv : f 1 with
    | true =>
     rw [hv] at HH
     have HV : Hid (f 1 = true) := hv
     clear hv
     go_wp2_with (go_at_call 274; refine HH.mono ?_; rintro e w2 ⟨rfl, hb2⟩)
     go_ret2
     exact ⟨by rw [HR.out, HAT.out hlt hfl.out HV.out]; rfl, hbr.out.trans (hb2.mono hbr.out.size)⟩
    | false =>
     rw [hv] at HH
     have HV : Hid (f 1 = false) := hv
     clear hv
     go_wp2_with (go_at_call 274; refine HH.mono ?_; rintro e w2 ⟨rfl, hb2⟩)
     go_roundw
     case rel =>
      refine ⟨1 + 1, by omega, by go_num, fun j hj => ?_, hbr.out.trans (hb2.mono hbr.out.size)⟩
      by_cases e : j = 1
      ·rw [e]; exact HV.out
      ·exact hfl.out j (by omega)
     case measure => simp [intOf]
   ·have hix := idx_2
    have hmt := kP
    have HH := HM2
    clear HM0 HM1 HM2 HM3 HM4 HM5
    cases hv : f 2 with
    | true =>
     rw [hv] at HH
     have HV : Hid (f 2 = true) := hv
     clear hv
     go_wp2_with (go_at_call 271; refine HH.mono ?_; rintro e w2 ⟨rfl, hb2⟩)
     go_ret2
     exact ⟨by rw [HR.out, HAT.out hlt hfl.out HV.out]; rfl, hbr.out.trans (hb2.mono hbr.out.size)⟩
    | false =>
     rw [hv] at HH
     have HV : Hid (f 2 = false) := hv
     clear hv
     go_wp2_with (go_at_call 271; refine HH.mono ?_; rintro e w2 ⟨rfl, hb2⟩)
     go_roundw
     case rel =>
      refine ⟨2 + 1, by omega, by go_num, fun j hj => ?_, hbr.out.trans (hb2.mono hbr.out.size)⟩
      by_cases e : j = 2
      ·rw [e]; exact HV.out
      ·exact hfl.out j (by omega)
     case measure => simp [intOf]
   ·have hix := idx_3
    have hmt := kP
    have HH := HM3
    clear HM0 HM1 HM2 HM3 HM4 HM5
    cases hv : f 3 with
    | true =>
     rw [hv] at HH
     have HV : Hid (f 3 = true) := hv
     clear hv
     go_wp2_with (go_at_call 271; refine HH.mono ?_; rintro e w2 ⟨rfl, hb2⟩)
     go_ret2
     exact ⟨by rw [HR.out, HAT.out hlt hfl.out HV.out]; rfl, hbr.out.trans (hb2.mono hbr.out.size)⟩
    | false =>
     rw [hv] at HH
     have HV : Hid (f 3 = false) := hv
     clear hv
     go_wp2_with (go_at_call 271; refine HH.mono ?_; rintro e w2 ⟨rfl, hb2⟩)
     go_roundw
     case rel =>
      refine ⟨3 + 1, by omega, by go_num, fun j hj => ?_, hbr.out.trans (hb2.mono hbr.out.size)⟩
      by_cases e : j = 3
      ·rw [e]; exact HV.out
      ·exact hfl.out j (by omega)
     case measure => simp [intOf]
   ·have hix := idx_4
    have hmt := tX
    have HH := HM4
    clear HM0 HM1 HM2 HM3 HM4 HM5
    cases hv : f 4 with
    | true =>
     rw [hv] at HH
     have HV : Hid (f 4 = true) := hv
     clear hv
     go_wp2_with (go_at_call 268; refine HH.mono ?_; rintro e w2 ⟨rfl, hb2⟩)
     go_ret2
     exact ⟨by rw [HR.out, HAT.out hlt hfl.out HV.out]; rfl, hbr.out.trans (hb2.mono hbr.out.size)⟩
    | false =>
     rw [hv] at HH
     have HV : Hid (f 4 = false) := hv
     clear hv
     go_wp2_with (go_at_call 268; refine HH.mono ?_; rintro e w2 ⟨rfl, hb2⟩)
     go_roundw
     case rel =>
      refine ⟨4 + 1, by omega, by go_num, fun j hj => ?_, hbr.out.trans (hb2.mono hbr.out.size)⟩
      by_cases e : j = 4
      ·rw [e]; exact HV.out
      ·exact hfl.out j (by omega)
     case measure => simp [intOf]
   ·have hix := idx_5
    have hmt := nM
    have HH := HM5
    clear HM0 HM1 HM2 HM3 HM4 HM5
    cases hv : f 5 with
    | true =>
     rw [hv] at HH
     have HV : Hid (f 5 = true) := hv
     clear hv
     go_wp2_with (go_at_call 265; refine HH.mono ?_; rintro e w2 ⟨rfl, hb2⟩)
     go_ret2
     exact ⟨by rw [HR.out, HAT.out hlt hfl.out HV.out]; rfl, hbr.out.trans (hb2.mono hbr.out.size)⟩
    | false =>
     rw [hv] at HH
     have HV : Hid (f 5 = false) := hv
     clear hv
     go_wp2_with (go_at_call 265; refine HH.mono ?_; rintro e w2 ⟨rfl, hb2⟩)
     go_roundw
     case rel =>
      refine ⟨5 + 1, by omega, by go_num, fun j hj => ?_, hbr.out.trans (hb2.mono hbr.out.size)⟩
      by_cases e : j = 5
      ·rw [e]; exact HV.out
      ·exact hfl.out j (by omega)
     case measure => simp [intOf]
  ·have hk6 : k = 6 := by omega
   subst hk6
   clear HM0 HM1 HM2 HM3 HM4 HM5
   go_wp2
   go_ret2
   exact ⟨by rw [HR.out, HNO.out hfl.out]; rfl, hbr.out⟩
end Go.Proofs.YtddlmenfcbjoaaaGreatDoor
