import Derived.Test.YtlhgphokfpnfeaaGreatDoorK04
namespace Go.Proofs.YtlhgphokfpnfeaaGreatDoor
set_option linter.unusedVariables false
open Go.ChangeShapes Go.WideShapes Go.ChangeAt Go.RowKit Go.Deep
def hasU (a z : Int) : Bool := z == 1 && (decide (268435456 ≤ a) && decide (a < 268435464))
def hasC (base a z : Int) : Bool := if z = 4 then (a == base || a == base + 4) else if z = 8 then a == base else false
def hasS (a z : Int) : Bool := a == 33554432 && z == 4
def hasF (a z : Int) : Bool := a == 1048576 && z == 4
theorem msipHas_c (g : Nat) (a z : Int) (w : World) : Calls Tryz.prog 144 #[.pointer (some ⟨g, 0, none⟩), .int .u64 a, .int .i64 z] w fun e w' => e = .returned (.bool (hasS a z)) ∧ w' = w := by
  unfold hasS
  rcases Bool.eq_false_or_eq_true (a == 33554432) with h1 | h1
  · go_enter Tryz.func144, Tryz.ntmps144
    go_wp2
    go_ret
    exact ⟨by rw [h1]; rfl, rfl⟩
  · go_enter Tryz.func144, Tryz.ntmps144
    go_wp2
    go_ret
    exact ⟨by rw [h1]; rfl, rfl⟩
theorem finHas_c (g : Nat) (a z : Int) (w : World) : Calls Tryz.prog 141 #[.pointer (some ⟨g, 0, none⟩), .int .u64 a, .int .i64 z] w fun e w' => e = .returned (.bool (hasF a z)) ∧ w' = w := by
  unfold hasF
  rcases Bool.eq_false_or_eq_true (a == 1048576) with h1 | h1
  · go_enter Tryz.func141, Tryz.ntmps141
    go_wp2
    go_ret
    exact ⟨by rw [h1]; rfl, rfl⟩
  · go_enter Tryz.func141, Tryz.ntmps141
    go_wp2
    go_ret
    exact ⟨by rw [h1]; rfl, rfl⟩
theorem uartHas_c (g : Nat) (a z : Int) (w : World) : Calls Tryz.prog 150 #[.pointer (some ⟨g, 0, none⟩), .int .u64 a, .int .i64 z] w fun e w' => e = .returned (.bool (hasU a z)) ∧ w' = w := by
  obtain ⟨b, hb⟩ : ∃ b, b = hasU a z := ⟨_, rfl⟩
  rw [← hb]
  have HE : Hid (b = (z == 1 && (decide (268435456 ≤ a) && decide (a < 268435464)))) := hb
  clear hb
  rcases Bool.eq_false_or_eq_true (z == 1) with h1 | h1
  · rcases Int.lt_or_le a 268435456 with h2 | h2
    · have HX : Hid (b = false) := by unfold Hid; rw [HE.out, show decide (268435456 ≤ a) = false from decide_eq_false (by omega)]; simp
      go_enter Tryz.func150, Tryz.ntmps150
      go_wp2
      go_ret
      exact ⟨by cases HX.out; rfl, rfl⟩
    · have HX : Hid (b = decide (a < 268435464)) := by unfold Hid; rw [HE.out, h1, show decide (268435456 ≤ a) = true from decide_eq_true h2]; rfl
      go_enter Tryz.func150, Tryz.ntmps150
      go_wp2
      go_ret
      exact ⟨by cases HX.out; rfl, rfl⟩
  · have HX : Hid (b = false) := by unfold Hid; rw [HE.out, h1]; rfl
    go_enter Tryz.func150, Tryz.ntmps150
    go_wp2
    go_ret
    exact ⟨by cases HX.out; rfl, rfl⟩
theorem ctrHas_c (g : Nat) (base a z : Int) (w : World) (hc : w.cell? ⟨g, 0, none⟩ = some (.int .u64 base)) (hb : 0 ≤ base ∧ base ≤ 4294967296) : Calls Tryz.prog 147 #[.pointer (some ⟨g, 0, none⟩), .int .u64 a, .int .i64 z] w fun e w' => e = .returned (.bool (hasC base a z)) ∧ w' = w := by
  have e1 : IntKind.u64.wrap (base + 4) = base + 4 := u64_small (by omega) (by omega)
  obtain ⟨b, hbb⟩ : ∃ b, b = hasC base a z := ⟨_, rfl⟩
  rw [← hbb]
  by_cases h4 : z = 4
  · subst h4
    have HX : Hid (b = (a == base || a == base + 4)) := by unfold Hid; rw [hbb]; rfl
    clear hbb
    rcases Bool.eq_false_or_eq_true (a == base) with h1 | h1
    · have HY : Hid (b = true) := by unfold Hid; rw [HX.out, h1]; rfl
      go_enter Tryz.func147, Tryz.ntmps147
      go_wp2
      go_ret
      exact ⟨by cases HY.out; rfl, rfl⟩
    · have HY : Hid (b = (a == base + 4)) := by unfold Hid; rw [HX.out, h1]; rfl
      go_enter Tryz.func147, Tryz.ntmps147
      go_wp2
      go_ret
      exact ⟨by cases HY.out; rfl, rfl⟩
  · by_cases h8 : z = 8
    · subst h8
      have HX : Hid (b = (a == base)) := by unfold Hid; rw [hbb]; rfl
      clear hbb
      go_enter Tryz.func147, Tryz.ntmps147
      go_wp2
      go_ret
      exact ⟨by cases HX.out; rfl, rfl⟩
    · have e4 : (z == 4) = false := by simpa using h4
      have e8 : (z == 8) = false := by simpa using h8
      have HX : Hid (b = false) := by unfold Hid; rw [hbb, hasC, if_neg h4, if_neg h8]
      clear hbb
      go_enter Tryz.func147, Tryz.ntmps147
      go_wp2
      go_ret
      exact ⟨by cases HX.out; rfl, rfl⟩
/-- Which device has an access: 6: none. -/
def fnd (n : Nat) (a z : Int) : Nat := if hasM n a z then 0 else if hasU a z then 1 else if hasC 33603576 a z then 2 else if hasC 33570816 a z then 3 else if hasS a z then 4 else if hasF a z then 5 else 6
theorem idx_0 (x0 x1 x2 x3 x4 x5 : Value) (w : World) : (Instr.index 159 (.agg #[x0, x1, x2, x3, x4, x5]) (.int .i64 0)).run Tryz.prog w = .ok x0 w := by kernel_rfl
theorem idx_1 (x0 x1 x2 x3 x4 x5 : Value) (w : World) : (Instr.index 159 (.agg #[x0, x1, x2, x3, x4, x5]) (.int .i64 1)).run Tryz.prog w = .ok x1 w := by kernel_rfl
theorem idx_2 (x0 x1 x2 x3 x4 x5 : Value) (w : World) : (Instr.index 159 (.agg #[x0, x1, x2, x3, x4, x5]) (.int .i64 2)).run Tryz.prog w = .ok x2 w := by kernel_rfl
theorem idx_3 (x0 x1 x2 x3 x4 x5 : Value) (w : World) : (Instr.index 159 (.agg #[x0, x1, x2, x3, x4, x5]) (.int .i64 3)).run Tryz.prog w = .ok x3 w := by kernel_rfl
theorem idx_4 (x0 x1 x2 x3 x4 x5 : Value) (w : World) : (Instr.index 159 (.agg #[x0, x1, x2, x3, x4, x5]) (.int .i64 4)).run Tryz.prog w = .ok x4 w := by kernel_rfl
theorem idx_5 (x0 x1 x2 x3 x4 x5 : Value) (w : World) : (Instr.index 159 (.agg #[x0, x1, x2, x3, x4, x5]) (.int .i64 5)).run Tryz.prog w = .ok x5 w := by kernel_rfl
theorem mth_memory_has (a : Addr) (w : World) : (method 307 96 (.pointer (some a)) "anvil/bus.has").run Tryz.prog w = .ok (135, .pointer (some a)) w := by kernel_rfl
theorem mth_uart_has (a : Addr) (w : World) : (method 307 100 (.pointer (some a)) "anvil/bus.has").run Tryz.prog w = .ok (150, .pointer (some a)) w := by kernel_rfl
theorem mth_counter_has (a : Addr) (w : World) : (method 307 99 (.pointer (some a)) "anvil/bus.has").run Tryz.prog w = .ok (147, .pointer (some a)) w := by kernel_rfl
theorem mth_msip_has (a : Addr) (w : World) : (method 307 98 (.pointer (some a)) "anvil/bus.has").run Tryz.prog w = .ok (144, .pointer (some a)) w := by kernel_rfl
theorem mth_finisher_has (a : Addr) (w : World) : (method 307 97 (.pointer (some a)) "anvil/bus.has").run Tryz.prog w = .ok (141, .pointer (some a)) w := by kernel_rfl
def hsf (n : Nat) (a z : Int) : Nat → Bool
  | 0 => hasM n a z
  | 1 => hasU a z
  | 2 => hasC 33603576 a z
  | 3 => hasC 33570816 a z
  | 4 => hasS a z
  | 5 => hasF a z
  | _ => false
theorem fnd_at {n : Nat} {a z : Int} : ∀ {k : Nat}, k < 6 → (∀ j, j < k → hsf n a z j = false) → hsf n a z k = true → fnd n a z = k
  | 0, _, hf, ht => by
    have t : hasM n a z = true := ht
    simp [fnd, t]
  | 1, _, hf, ht => by
    have f0 : hasM n a z = false := hf 0 (by omega)
    have t : hasU a z = true := ht
    simp [fnd, f0, t]
  | 2, _, hf, ht => by
    have f0 : hasM n a z = false := hf 0 (by omega)
    have f1 : hasU a z = false := hf 1 (by omega)
    have t : hasC 33603576 a z = true := ht
    simp [fnd, f0, f1, t]
  | 3, _, hf, ht => by
    have f0 : hasM n a z = false := hf 0 (by omega)
    have f1 : hasU a z = false := hf 1 (by omega)
    have f2 : hasC 33603576 a z = false := hf 2 (by omega)
    have t : hasC 33570816 a z = true := ht
    simp [fnd, f0, f1, f2, t]
  | 4, _, hf, ht => by
    have f0 : hasM n a z = false := hf 0 (by omega)
    have f1 : hasU a z = false := hf 1 (by omega)
    have f2 : hasC 33603576 a z = false := hf 2 (by omega)
    have f3 : hasC 33570816 a z = false := hf 3 (by omega)
    have t : hasS a z = true := ht
    simp [fnd, f0, f1, f2, f3, t]
  | 5, _, hf, ht => by
    have f0 : hasM n a z = false := hf 0 (by omega)
    have f1 : hasU a z = false := hf 1 (by omega)
    have f2 : hasC 33603576 a z = false := hf 2 (by omega)
    have f3 : hasC 33570816 a z = false := hf 3 (by omega)
    have f4 : hasS a z = false := hf 4 (by omega)
    have t : hasF a z = true := ht
    simp [fnd, f0, f1, f2, f3, f4, t]
  | _ + 6, h, _, _ => by omega
theorem fnd_none {n : Nat} {a z : Int} (hf : ∀ j, j < 6 → hsf n a z j = false) : fnd n a z = 6 := by
  have f0 : hasM n a z = false := hf 0 (by omega)
  have f1 : hasU a z = false := hf 1 (by omega)
  have f2 : hasC 33603576 a z = false := hf 2 (by omega)
  have f3 : hasC 33570816 a z = false := hf 3 (by omega)
  have f4 : hasS a z = false := hf 4 (by omega)
  have f5 : hasF a z = false := hf 5 (by omega)
  simp [fnd, f0, f1, f2, f3, f4, f5]
/-- The device of a number. -/
def dvOf (L : Lay) (k : Nat) : Value := (dvs L).getD k .nilIface
theorem hasAll {B : Nat} {L : Lay} {S : St} {w : World} (h : PB B L S w) (hn : S.ram.length ≤ 65536) (a z : Int) (ha : 0 ≤ a ∧ a ≤ 18446744073709551615) (hz : -9223372036854775808 ≤ z ∧ z ≤ 9223372036854775807) :
    (Calls Tryz.prog 135 #[.pointer (some ⟨L.m, 0, none⟩), .int .u64 a, .int .i64 z] w fun e w' => e = .returned (.bool (hsf S.ram.length a z 0)) ∧ Below w.heap.size w w') ∧ (Calls Tryz.prog 150 #[.pointer (some ⟨L.u, 0, none⟩), .int .u64 a, .int .i64 z] w fun e w' => e = .returned (.bool (hsf S.ram.length a z 1)) ∧ Below w.heap.size w w') ∧ (Calls Tryz.prog 147 #[.pointer (some ⟨L.ck, 0, none⟩), .int .u64 a, .int .i64 z] w fun e w' => e = .returned (.bool (hsf S.ram.length a z 2)) ∧ Below w.heap.size w w') ∧ (Calls Tryz.prog 147 #[.pointer (some ⟨L.cm, 0, none⟩), .int .u64 a, .int .i64 z] w fun e w' => e = .returned (.bool (hsf S.ram.length a z 3)) ∧ Below w.heap.size w w') ∧ (Calls Tryz.prog 144 #[.pointer (some ⟨L.sw, 0, none⟩), .int .u64 a, .int .i64 z] w fun e w' => e = .returned (.bool (hsf S.ram.length a z 4)) ∧ Below w.heap.size w w') ∧ (Calls Tryz.prog 141 #[.pointer (some ⟨L.pw, 0, none⟩), .int .u64 a, .int .i64 z] w fun e w' => e = .returned (.bool (hsf S.ram.length a z 5)) ∧ Below w.heap.size w w') := by
  have same : ∀ {f : FuncId} {args : Array Value} {b : Bool}, (Calls Tryz.prog f args w fun e w' => e = .returned (.bool b) ∧ w' = w) → Calls Tryz.prog f args w fun e w' => e = .returned (.bool b) ∧ Below w.heap.size w w' := fun h => h.mono fun e w' ⟨h1, h2⟩ => ⟨h1, by rw [h2]; exact Below.refl _ _⟩
  have c := h.cl
  have hr := Byt.of_own h.wr
  obtain ⟨ar, cr, er, _⟩ := hr
  refine ⟨?_, same (uartHas_c _ a z w), same (ctrHas_c _ 33603576 a z w c.k0 (by omega)), same (ctrHas_c _ 33570816 a z w c.c0 (by omega)), same (msipHas_c _ a z w), same (finHas_c _ a z w)⟩
  exact memHas_c L.m S.ram.length cr ar a z w (by rw [← er]; exact c.m0) hn ha hz
set_option maxRecDepth 100000 in
set_option maxHeartbeats 4000000 in
theorem find_c {B : Nat} {L : Lay} {S : St} (w : World) (h : PB B L S w) (hn : S.ram.length ≤ 65536) (a z : Int) (ha : 0 ≤ a ∧ a ≤ 18446744073709551615) (hz : -9223372036854775808 ≤ z ∧ z ≤ 9223372036854775807) :
    Calls Tryz.prog 57 #[.pointer (some ⟨L.b, 0, none⟩), .int .u64 a, .int .i64 z] w fun e w' => e = .returned (.tuple #[dvOf L (fnd S.ram.length a z), .bool (decide (fnd S.ram.length a z < 6))]) ∧ Below w.heap.size w w' := by
  have HD := devices_c w h
  have HALL : Hid (∀ w', Below w.heap.size w w' → _) := fun w' hb => hasAll (h.later hb) hn a z ha hz
  have HAT : Hid (∀ {k : Nat}, k < 6 → (∀ j, j < k → hsf S.ram.length a z j = false) → hsf S.ram.length a z k = true → fnd S.ram.length a z = k) := fnd_at
  have HNO : Hid ((∀ j, j < 6 → hsf S.ram.length a z j = false) → fnd S.ram.length a z = 6) := fnd_none
  obtain ⟨R, hR⟩ : ∃ R, R = Value.tuple #[dvOf L (fnd S.ram.length a z), .bool (decide (fnd S.ram.length a z < 6))] := ⟨_, rfl⟩
  rw [← hR]
  have HR : Hid (R = Value.tuple #[dvOf L (fnd S.ram.length a z), .bool (decide (fnd S.ram.length a z < 6))]) := hR
  obtain ⟨f, hf⟩ : ∃ f, f = hsf S.ram.length a z := ⟨_, rfl⟩
  rw [← hf] at HALL HAT HNO
  unfold dvs pt at HD
  clear h hR hf ha hz hn
  go_enter Tryz.func57, Tryz.ntmps57
  go_wp2_with (go_at_call 79; refine HD.mono ?_; rintro e w1 ⟨rfl, hb1⟩)
  go_loopw [12] (fun i wr => ∃ k : Nat, k ≤ 6 ∧ i = .int .i64 k ∧ Hid (∀ j, j < k → f j = false) ∧ Hid (Below w.heap.size w wr)) (fun i _ => 6 - (intOf i).toNat)
  case atStart => exact ⟨0, Nat.zero_le _, rfl, fun j hj => absurd hj (Nat.not_lt_zero _), hb1⟩
  case round =>
    obtain ⟨k, hk, rfl, hfl, hbr⟩ := hrel
    obtain ⟨HM0, HM1, HM2, HM3, HM4, HM5⟩ := HALL.out wr hbr.out
    by_cases hlt : k < 6
    · have hk6 : k = 0 ∨ k = 1 ∨ k = 2 ∨ k = 3 ∨ k = 4 ∨ k = 5 := by omega
      rcases hk6 with rfl | rfl | rfl | rfl | rfl | rfl
      · have hix := idx_0
        have hmt := mth_memory_has
        have HH := HM0
        clear HM0 HM1 HM2 HM3 HM4 HM5
        cases hv : f 0 with
        | true =>
          rw [hv] at HH
          have HV : Hid (f 0 = true) := hv
          clear hv
          go_wp2_with (go_at_call 135; refine HH.mono ?_; rintro e w2 ⟨rfl, hb2⟩)
          go_ret2
          exact ⟨by rw [HR.out, HAT.out hlt hfl.out HV.out]; rfl, hbr.out.trans (hb2.mono hbr.out.size)⟩
        | false =>
          rw [hv] at HH
          have HV : Hid (f 0 = false) := hv
          clear hv
          go_wp2_with (go_at_call 135; refine HH.mono ?_; rintro e w2 ⟨rfl, hb2⟩)
          go_roundw
          case rel =>
            refine ⟨0 + 1, by omega, by go_num, fun j hj => ?_, hbr.out.trans (hb2.mono hbr.out.size)⟩
            by_cases e : j = 0
            · rw [e]; exact HV.out
            · exact hfl.out j (by omega)
          case measure => simp [intOf]
      · have hix := idx_1
        have hmt := mth_uart_has
        have HH := HM1
        clear HM0 HM1 HM2 HM3 HM4 HM5
        cases hv : f 1 with
        | true =>
          rw [hv] at HH
          have HV : Hid (f 1 = true) := hv
          clear hv
          go_wp2_with (go_at_call 150; refine HH.mono ?_; rintro e w2 ⟨rfl, hb2⟩)
          go_ret2
          exact ⟨by rw [HR.out, HAT.out hlt hfl.out HV.out]; rfl, hbr.out.trans (hb2.mono hbr.out.size)⟩
        | false =>
          rw [hv] at HH
          have HV : Hid (f 1 = false) := hv
          clear hv
          go_wp2_with (go_at_call 150; refine HH.mono ?_; rintro e w2 ⟨rfl, hb2⟩)
          go_roundw
          case rel =>
            refine ⟨1 + 1, by omega, by go_num, fun j hj => ?_, hbr.out.trans (hb2.mono hbr.out.size)⟩
            by_cases e : j = 1
            · rw [e]; exact HV.out
            · exact hfl.out j (by omega)
          case measure => simp [intOf]
      · have hix := idx_2
        have hmt := mth_counter_has
        have HH := HM2
        clear HM0 HM1 HM2 HM3 HM4 HM5
        cases hv : f 2 with
        | true =>
          rw [hv] at HH
          have HV : Hid (f 2 = true) := hv
          clear hv
          go_wp2_with (go_at_call 147; refine HH.mono ?_; rintro e w2 ⟨rfl, hb2⟩)
          go_ret2
          exact ⟨by rw [HR.out, HAT.out hlt hfl.out HV.out]; rfl, hbr.out.trans (hb2.mono hbr.out.size)⟩
        | false =>
          rw [hv] at HH
          have HV : Hid (f 2 = false) := hv
          clear hv
          go_wp2_with (go_at_call 147; refine HH.mono ?_; rintro e w2 ⟨rfl, hb2⟩)
          go_roundw
          case rel =>
            refine ⟨2 + 1, by omega, by go_num, fun j hj => ?_, hbr.out.trans (hb2.mono hbr.out.size)⟩
            by_cases e : j = 2
            · rw [e]; exact HV.out
            · exact hfl.out j (by omega)
          case measure => simp [intOf]
      · have hix := idx_3
        have hmt := mth_counter_has
        have HH := HM3
        clear HM0 HM1 HM2 HM3 HM4 HM5
        cases hv : f 3 with
        | true =>
          rw [hv] at HH
          have HV : Hid (f 3 = true) := hv
          clear hv
          go_wp2_with (go_at_call 147; refine HH.mono ?_; rintro e w2 ⟨rfl, hb2⟩)
          go_ret2
          exact ⟨by rw [HR.out, HAT.out hlt hfl.out HV.out]; rfl, hbr.out.trans (hb2.mono hbr.out.size)⟩
        | false =>
          rw [hv] at HH
          have HV : Hid (f 3 = false) := hv
          clear hv
          go_wp2_with (go_at_call 147; refine HH.mono ?_; rintro e w2 ⟨rfl, hb2⟩)
          go_roundw
          case rel =>
            refine ⟨3 + 1, by omega, by go_num, fun j hj => ?_, hbr.out.trans (hb2.mono hbr.out.size)⟩
            by_cases e : j = 3
            · rw [e]; exact HV.out
            · exact hfl.out j (by omega)
          case measure => simp [intOf]
      · have hix := idx_4
        have hmt := mth_msip_has
        have HH := HM4
        clear HM0 HM1 HM2 HM3 HM4 HM5
        cases hv : f 4 with
        | true =>
          rw [hv] at HH
          have HV : Hid (f 4 = true) := hv
          clear hv
          go_wp2_with (go_at_call 144; refine HH.mono ?_; rintro e w2 ⟨rfl, hb2⟩)
          go_ret2
          exact ⟨by rw [HR.out, HAT.out hlt hfl.out HV.out]; rfl, hbr.out.trans (hb2.mono hbr.out.size)⟩
        | false =>
          rw [hv] at HH
          have HV : Hid (f 4 = false) := hv
          clear hv
          go_wp2_with (go_at_call 144; refine HH.mono ?_; rintro e w2 ⟨rfl, hb2⟩)
          go_roundw
          case rel =>
            refine ⟨4 + 1, by omega, by go_num, fun j hj => ?_, hbr.out.trans (hb2.mono hbr.out.size)⟩
            by_cases e : j = 4
            · rw [e]; exact HV.out
            · exact hfl.out j (by omega)
          case measure => simp [intOf]
      · have hix := idx_5
        have hmt := mth_finisher_has
        have HH := HM5
        clear HM0 HM1 HM2 HM3 HM4 HM5
        cases hv : f 5 with
        | true =>
          rw [hv] at HH
          have HV : Hid (f 5 = true) := hv
          clear hv
          go_wp2_with (go_at_call 141; refine HH.mono ?_; rintro e w2 ⟨rfl, hb2⟩)
          go_ret2
          exact ⟨by rw [HR.out, HAT.out hlt hfl.out HV.out]; rfl, hbr.out.trans (hb2.mono hbr.out.size)⟩
        | false =>
          rw [hv] at HH
          have HV : Hid (f 5 = false) := hv
          clear hv
          go_wp2_with (go_at_call 141; refine HH.mono ?_; rintro e w2 ⟨rfl, hb2⟩)
          go_roundw
          case rel =>
            refine ⟨5 + 1, by omega, by go_num, fun j hj => ?_, hbr.out.trans (hb2.mono hbr.out.size)⟩
            by_cases e : j = 5
            · rw [e]; exact HV.out
            · exact hfl.out j (by omega)
          case measure => simp [intOf]
    · have hk6 : k = 6 := by omega
      subst hk6
      clear HM0 HM1 HM2 HM3 HM4 HM5
      go_wp2
      go_ret2
      exact ⟨by rw [HR.out, HNO.out hfl.out]; rfl, hbr.out⟩
end Go.Proofs.YtlhgphokfpnfeaaGreatDoor
