import Derived.Test.YtlhgphokfpnfeaaGreatDoorK07
import Derived.Test.YtlhgphokfpnfeaaGreatDoorK06
import Derived.Deep.RegionHeld3
namespace Go.Proofs.YtlhgphokfpnfeaaGreatDoor
set_option linter.unusedVariables false
open Go.ChangeShapes Go.WideShapes Go.ChangeAt Go.RowKit Go.Deep Go.MuLone
theorem load_d1 {B : Nat} {L : Lay} {S : St} (w : World) (h : PB B L S w) (hn : S.ram.length ≤ 65536) (a z : Int) (ha : 0 ≤ a ∧ a ≤ 18446744073709551615) (hz : -9223372036854775808 ≤ z ∧ z ≤ 9223372036854775807) (hf : fnd S.ram.length a z = 1) (v : Int) (T : St)
    (hC : ∀ w1, Below w.heap.size w w1 → Calls Tryz.prog 152 #[.pointer (some ⟨L.u, 0, none⟩), .int .u64 a, .int .i64 z] w1 fun e w' => e = .returned (.int .u64 v) ∧ ∃ L', PSt B L w1 L' T w') :
    Calls Tryz.prog 89 #[.pointer (some ⟨L.b, 0, none⟩), .int .u64 a, .int .i64 z] w fun e w' => e = .returned (.tuple #[.int .u64 v, .bool true]) ∧ ∃ L', PSt B L w L' T w' := by
  have HF := find_c w h hn a z ha hz
  rw [hf] at HF
  simp only [show dvOf L 1 = .iface 100 (.pointer (some ⟨L.u, 0, none⟩)) from rfl, show decide (1 < 6) = true from rfl] at HF
  have HC : Hid (∀ w1, Below w.heap.size w w1 → Calls Tryz.prog 152 #[.pointer (some ⟨L.u, 0, none⟩), .int .u64 a, .int .i64 z] w1 fun e w' => e = .returned (.int .u64 v) ∧ ∃ L', PSt B L w1 L' T w') := hC
  have hmt := mth_uart_load
  clear h hf hC ha hz
  go_enter Tryz.func89, Tryz.ntmps89
  go_wp2_with (first | (go_at_call 57; refine HF.mono ?_; rintro e w1 ⟨rfl, hb1⟩) | (go_at_call 152; refine (HC.out _ hb1).mono ?_; rintro e w2 ⟨rfl, hx⟩; have HX : Hid (∃ L', PSt B L w1 L' T w2) := hx; clear hx))
  go_ret2
  obtain ⟨L', hx⟩ := HX.out
  exact ⟨rfl, L', hx.pre hb1⟩
theorem store_d1 {B : Nat} {L : Lay} {S : St} (w : World) (h : PB B L S w) (hn : S.ram.length ≤ 65536) (a z : Int) (ha : 0 ≤ a ∧ a ≤ 18446744073709551615) (hz : -9223372036854775808 ≤ z ∧ z ≤ 9223372036854775807) (v : Int) (hf : fnd S.ram.length a z = 1) (T : St)
    (hC : ∀ w1, Below w.heap.size w w1 → Calls Tryz.prog 153 #[.pointer (some ⟨L.u, 0, none⟩), .int .u64 a, .int .i64 z, .int .u64 v] w1 fun e w' => e = .returned (.tuple #[]) ∧ ∃ L', PSt B L w1 L' T w') :
    Calls Tryz.prog 90 #[.pointer (some ⟨L.b, 0, none⟩), .int .u64 a, .int .i64 z, .int .u64 v] w fun e w' => e = .returned (.bool true) ∧ ∃ L', PSt B L w L' T w' := by
  have HF := find_c w h hn a z ha hz
  rw [hf] at HF
  simp only [show dvOf L 1 = .iface 100 (.pointer (some ⟨L.u, 0, none⟩)) from rfl, show decide (1 < 6) = true from rfl] at HF
  have HC : Hid (∀ w1, Below w.heap.size w w1 → Calls Tryz.prog 153 #[.pointer (some ⟨L.u, 0, none⟩), .int .u64 a, .int .i64 z, .int .u64 v] w1 fun e w' => e = .returned (.tuple #[]) ∧ ∃ L', PSt B L w1 L' T w') := hC
  have hmt := mth_uart_store
  clear h hf hC ha hz
  go_enter Tryz.func90, Tryz.ntmps90
  go_wp2_with (first | (go_at_call 57; refine HF.mono ?_; rintro e w1 ⟨rfl, hb1⟩) | (go_at_call 153; refine (HC.out _ hb1).mono ?_; rintro e w2 ⟨rfl, hx⟩; have HX : Hid (∃ L', PSt B L w1 L' T w2) := hx; clear hx))
  go_ret
  obtain ⟨L', hx⟩ := HX.out
  exact ⟨rfl, L', hx.pre hb1⟩
theorem load_d2 {B : Nat} {L : Lay} {S : St} (w : World) (h : PB B L S w) (hn : S.ram.length ≤ 65536) (a z : Int) (ha : 0 ≤ a ∧ a ≤ 18446744073709551615) (hz : -9223372036854775808 ≤ z ∧ z ≤ 9223372036854775807) (hf : fnd S.ram.length a z = 2) (v : Int) (T : St)
    (hC : ∀ w1, Below w.heap.size w w1 → Calls Tryz.prog 148 #[.pointer (some ⟨L.ck, 0, none⟩), .int .u64 a, .int .i64 z] w1 fun e w' => e = .returned (.int .u64 v) ∧ ∃ L', PSt B L w1 L' T w') :
    Calls Tryz.prog 89 #[.pointer (some ⟨L.b, 0, none⟩), .int .u64 a, .int .i64 z] w fun e w' => e = .returned (.tuple #[.int .u64 v, .bool true]) ∧ ∃ L', PSt B L w L' T w' := by
  have HF := find_c w h hn a z ha hz
  rw [hf] at HF
  simp only [show dvOf L 2 = .iface 99 (.pointer (some ⟨L.ck, 0, none⟩)) from rfl, show decide (2 < 6) = true from rfl] at HF
  have HC : Hid (∀ w1, Below w.heap.size w w1 → Calls Tryz.prog 148 #[.pointer (some ⟨L.ck, 0, none⟩), .int .u64 a, .int .i64 z] w1 fun e w' => e = .returned (.int .u64 v) ∧ ∃ L', PSt B L w1 L' T w') := hC
  have hmt := mth_counter_load
  clear h hf hC ha hz
  go_enter Tryz.func89, Tryz.ntmps89
  go_wp2_with (first | (go_at_call 57; refine HF.mono ?_; rintro e w1 ⟨rfl, hb1⟩) | (go_at_call 148; refine (HC.out _ hb1).mono ?_; rintro e w2 ⟨rfl, hx⟩; have HX : Hid (∃ L', PSt B L w1 L' T w2) := hx; clear hx))
  go_ret2
  obtain ⟨L', hx⟩ := HX.out
  exact ⟨rfl, L', hx.pre hb1⟩
theorem store_d2 {B : Nat} {L : Lay} {S : St} (w : World) (h : PB B L S w) (hn : S.ram.length ≤ 65536) (a z : Int) (ha : 0 ≤ a ∧ a ≤ 18446744073709551615) (hz : -9223372036854775808 ≤ z ∧ z ≤ 9223372036854775807) (v : Int) (hf : fnd S.ram.length a z = 2) (T : St)
    (hC : ∀ w1, Below w.heap.size w w1 → Calls Tryz.prog 149 #[.pointer (some ⟨L.ck, 0, none⟩), .int .u64 a, .int .i64 z, .int .u64 v] w1 fun e w' => e = .returned (.tuple #[]) ∧ ∃ L', PSt B L w1 L' T w') :
    Calls Tryz.prog 90 #[.pointer (some ⟨L.b, 0, none⟩), .int .u64 a, .int .i64 z, .int .u64 v] w fun e w' => e = .returned (.bool true) ∧ ∃ L', PSt B L w L' T w' := by
  have HF := find_c w h hn a z ha hz
  rw [hf] at HF
  simp only [show dvOf L 2 = .iface 99 (.pointer (some ⟨L.ck, 0, none⟩)) from rfl, show decide (2 < 6) = true from rfl] at HF
  have HC : Hid (∀ w1, Below w.heap.size w w1 → Calls Tryz.prog 149 #[.pointer (some ⟨L.ck, 0, none⟩), .int .u64 a, .int .i64 z, .int .u64 v] w1 fun e w' => e = .returned (.tuple #[]) ∧ ∃ L', PSt B L w1 L' T w') := hC
  have hmt := mth_counter_store
  clear h hf hC ha hz
  go_enter Tryz.func90, Tryz.ntmps90
  go_wp2_with (first | (go_at_call 57; refine HF.mono ?_; rintro e w1 ⟨rfl, hb1⟩) | (go_at_call 149; refine (HC.out _ hb1).mono ?_; rintro e w2 ⟨rfl, hx⟩; have HX : Hid (∃ L', PSt B L w1 L' T w2) := hx; clear hx))
  go_ret
  obtain ⟨L', hx⟩ := HX.out
  exact ⟨rfl, L', hx.pre hb1⟩
theorem load_d3 {B : Nat} {L : Lay} {S : St} (w : World) (h : PB B L S w) (hn : S.ram.length ≤ 65536) (a z : Int) (ha : 0 ≤ a ∧ a ≤ 18446744073709551615) (hz : -9223372036854775808 ≤ z ∧ z ≤ 9223372036854775807) (hf : fnd S.ram.length a z = 3) (v : Int) (T : St)
    (hC : ∀ w1, Below w.heap.size w w1 → Calls Tryz.prog 148 #[.pointer (some ⟨L.cm, 0, none⟩), .int .u64 a, .int .i64 z] w1 fun e w' => e = .returned (.int .u64 v) ∧ ∃ L', PSt B L w1 L' T w') :
    Calls Tryz.prog 89 #[.pointer (some ⟨L.b, 0, none⟩), .int .u64 a, .int .i64 z] w fun e w' => e = .returned (.tuple #[.int .u64 v, .bool true]) ∧ ∃ L', PSt B L w L' T w' := by
  have HF := find_c w h hn a z ha hz
  rw [hf] at HF
  simp only [show dvOf L 3 = .iface 99 (.pointer (some ⟨L.cm, 0, none⟩)) from rfl, show decide (3 < 6) = true from rfl] at HF
  have HC : Hid (∀ w1, Below w.heap.size w w1 → Calls Tryz.prog 148 #[.pointer (some ⟨L.cm, 0, none⟩), .int .u64 a, .int .i64 z] w1 fun e w' => e = .returned (.int .u64 v) ∧ ∃ L', PSt B L w1 L' T w') := hC
  have hmt := mth_counter_load
  clear h hf hC ha hz
  go_enter Tryz.func89, Tryz.ntmps89
  go_wp2_with (first | (go_at_call 57; refine HF.mono ?_; rintro e w1 ⟨rfl, hb1⟩) | (go_at_call 148; refine (HC.out _ hb1).mono ?_; rintro e w2 ⟨rfl, hx⟩; have HX : Hid (∃ L', PSt B L w1 L' T w2) := hx; clear hx))
  go_ret2
  obtain ⟨L', hx⟩ := HX.out
  exact ⟨rfl, L', hx.pre hb1⟩
theorem store_d3 {B : Nat} {L : Lay} {S : St} (w : World) (h : PB B L S w) (hn : S.ram.length ≤ 65536) (a z : Int) (ha : 0 ≤ a ∧ a ≤ 18446744073709551615) (hz : -9223372036854775808 ≤ z ∧ z ≤ 9223372036854775807) (v : Int) (hf : fnd S.ram.length a z = 3) (T : St)
    (hC : ∀ w1, Below w.heap.size w w1 → Calls Tryz.prog 149 #[.pointer (some ⟨L.cm, 0, none⟩), .int .u64 a, .int .i64 z, .int .u64 v] w1 fun e w' => e = .returned (.tuple #[]) ∧ ∃ L', PSt B L w1 L' T w') :
    Calls Tryz.prog 90 #[.pointer (some ⟨L.b, 0, none⟩), .int .u64 a, .int .i64 z, .int .u64 v] w fun e w' => e = .returned (.bool true) ∧ ∃ L', PSt B L w L' T w' := by
  have HF := find_c w h hn a z ha hz
  rw [hf] at HF
  simp only [show dvOf L 3 = .iface 99 (.pointer (some ⟨L.cm, 0, none⟩)) from rfl, show decide (3 < 6) = true from rfl] at HF
  have HC : Hid (∀ w1, Below w.heap.size w w1 → Calls Tryz.prog 149 #[.pointer (some ⟨L.cm, 0, none⟩), .int .u64 a, .int .i64 z, .int .u64 v] w1 fun e w' => e = .returned (.tuple #[]) ∧ ∃ L', PSt B L w1 L' T w') := hC
  have hmt := mth_counter_store
  clear h hf hC ha hz
  go_enter Tryz.func90, Tryz.ntmps90
  go_wp2_with (first | (go_at_call 57; refine HF.mono ?_; rintro e w1 ⟨rfl, hb1⟩) | (go_at_call 149; refine (HC.out _ hb1).mono ?_; rintro e w2 ⟨rfl, hx⟩; have HX : Hid (∃ L', PSt B L w1 L' T w2) := hx; clear hx))
  go_ret
  obtain ⟨L', hx⟩ := HX.out
  exact ⟨rfl, L', hx.pre hb1⟩
theorem load_d4 {B : Nat} {L : Lay} {S : St} (w : World) (h : PB B L S w) (hn : S.ram.length ≤ 65536) (a z : Int) (ha : 0 ≤ a ∧ a ≤ 18446744073709551615) (hz : -9223372036854775808 ≤ z ∧ z ≤ 9223372036854775807) (hf : fnd S.ram.length a z = 4) (v : Int) (T : St)
    (hC : ∀ w1, Below w.heap.size w w1 → Calls Tryz.prog 145 #[.pointer (some ⟨L.sw, 0, none⟩), .int .u64 a, .int .i64 z] w1 fun e w' => e = .returned (.int .u64 v) ∧ ∃ L', PSt B L w1 L' T w') :
    Calls Tryz.prog 89 #[.pointer (some ⟨L.b, 0, none⟩), .int .u64 a, .int .i64 z] w fun e w' => e = .returned (.tuple #[.int .u64 v, .bool true]) ∧ ∃ L', PSt B L w L' T w' := by
  have HF := find_c w h hn a z ha hz
  rw [hf] at HF
  simp only [show dvOf L 4 = .iface 98 (.pointer (some ⟨L.sw, 0, none⟩)) from rfl, show decide (4 < 6) = true from rfl] at HF
  have HC : Hid (∀ w1, Below w.heap.size w w1 → Calls Tryz.prog 145 #[.pointer (some ⟨L.sw, 0, none⟩), .int .u64 a, .int .i64 z] w1 fun e w' => e = .returned (.int .u64 v) ∧ ∃ L', PSt B L w1 L' T w') := hC
  have hmt := mth_msip_load
  clear h hf hC ha hz
  go_enter Tryz.func89, Tryz.ntmps89
  go_wp2_with (first | (go_at_call 57; refine HF.mono ?_; rintro e w1 ⟨rfl, hb1⟩) | (go_at_call 145; refine (HC.out _ hb1).mono ?_; rintro e w2 ⟨rfl, hx⟩; have HX : Hid (∃ L', PSt B L w1 L' T w2) := hx; clear hx))
  go_ret2
  obtain ⟨L', hx⟩ := HX.out
  exact ⟨rfl, L', hx.pre hb1⟩
theorem store_d4 {B : Nat} {L : Lay} {S : St} (w : World) (h : PB B L S w) (hn : S.ram.length ≤ 65536) (a z : Int) (ha : 0 ≤ a ∧ a ≤ 18446744073709551615) (hz : -9223372036854775808 ≤ z ∧ z ≤ 9223372036854775807) (v : Int) (hf : fnd S.ram.length a z = 4) (T : St)
    (hC : ∀ w1, Below w.heap.size w w1 → Calls Tryz.prog 146 #[.pointer (some ⟨L.sw, 0, none⟩), .int .u64 a, .int .i64 z, .int .u64 v] w1 fun e w' => e = .returned (.tuple #[]) ∧ ∃ L', PSt B L w1 L' T w') :
    Calls Tryz.prog 90 #[.pointer (some ⟨L.b, 0, none⟩), .int .u64 a, .int .i64 z, .int .u64 v] w fun e w' => e = .returned (.bool true) ∧ ∃ L', PSt B L w L' T w' := by
  have HF := find_c w h hn a z ha hz
  rw [hf] at HF
  simp only [show dvOf L 4 = .iface 98 (.pointer (some ⟨L.sw, 0, none⟩)) from rfl, show decide (4 < 6) = true from rfl] at HF
  have HC : Hid (∀ w1, Below w.heap.size w w1 → Calls Tryz.prog 146 #[.pointer (some ⟨L.sw, 0, none⟩), .int .u64 a, .int .i64 z, .int .u64 v] w1 fun e w' => e = .returned (.tuple #[]) ∧ ∃ L', PSt B L w1 L' T w') := hC
  have hmt := mth_msip_store
  clear h hf hC ha hz
  go_enter Tryz.func90, Tryz.ntmps90
  go_wp2_with (first | (go_at_call 57; refine HF.mono ?_; rintro e w1 ⟨rfl, hb1⟩) | (go_at_call 146; refine (HC.out _ hb1).mono ?_; rintro e w2 ⟨rfl, hx⟩; have HX : Hid (∃ L', PSt B L w1 L' T w2) := hx; clear hx))
  go_ret
  obtain ⟨L', hx⟩ := HX.out
  exact ⟨rfl, L', hx.pre hb1⟩
theorem load_d5 {B : Nat} {L : Lay} {S : St} (w : World) (h : PB B L S w) (hn : S.ram.length ≤ 65536) (a z : Int) (ha : 0 ≤ a ∧ a ≤ 18446744073709551615) (hz : -9223372036854775808 ≤ z ∧ z ≤ 9223372036854775807) (hf : fnd S.ram.length a z = 5) (v : Int) (T : St)
    (hC : ∀ w1, Below w.heap.size w w1 → Calls Tryz.prog 142 #[.pointer (some ⟨L.pw, 0, none⟩), .int .u64 a, .int .i64 z] w1 fun e w' => e = .returned (.int .u64 v) ∧ ∃ L', PSt B L w1 L' T w') :
    Calls Tryz.prog 89 #[.pointer (some ⟨L.b, 0, none⟩), .int .u64 a, .int .i64 z] w fun e w' => e = .returned (.tuple #[.int .u64 v, .bool true]) ∧ ∃ L', PSt B L w L' T w' := by
  have HF := find_c w h hn a z ha hz
  rw [hf] at HF
  simp only [show dvOf L 5 = .iface 97 (.pointer (some ⟨L.pw, 0, none⟩)) from rfl, show decide (5 < 6) = true from rfl] at HF
  have HC : Hid (∀ w1, Below w.heap.size w w1 → Calls Tryz.prog 142 #[.pointer (some ⟨L.pw, 0, none⟩), .int .u64 a, .int .i64 z] w1 fun e w' => e = .returned (.int .u64 v) ∧ ∃ L', PSt B L w1 L' T w') := hC
  have hmt := mth_finisher_load
  clear h hf hC ha hz
  go_enter Tryz.func89, Tryz.ntmps89
  go_wp2_with (first | (go_at_call 57; refine HF.mono ?_; rintro e w1 ⟨rfl, hb1⟩) | (go_at_call 142; refine (HC.out _ hb1).mono ?_; rintro e w2 ⟨rfl, hx⟩; have HX : Hid (∃ L', PSt B L w1 L' T w2) := hx; clear hx))
  go_ret2
  obtain ⟨L', hx⟩ := HX.out
  exact ⟨rfl, L', hx.pre hb1⟩
theorem store_d5 {B : Nat} {L : Lay} {S : St} (w : World) (h : PB B L S w) (hn : S.ram.length ≤ 65536) (a z : Int) (ha : 0 ≤ a ∧ a ≤ 18446744073709551615) (hz : -9223372036854775808 ≤ z ∧ z ≤ 9223372036854775807) (v : Int) (hf : fnd S.ram.length a z = 5) (T : St)
    (hC : ∀ w1, Below w.heap.size w w1 → Calls Tryz.prog 143 #[.pointer (some ⟨L.pw, 0, none⟩), .int .u64 a, .int .i64 z, .int .u64 v] w1 fun e w' => e = .returned (.tuple #[]) ∧ ∃ L', PSt B L w1 L' T w') :
    Calls Tryz.prog 90 #[.pointer (some ⟨L.b, 0, none⟩), .int .u64 a, .int .i64 z, .int .u64 v] w fun e w' => e = .returned (.bool true) ∧ ∃ L', PSt B L w L' T w' := by
  have HF := find_c w h hn a z ha hz
  rw [hf] at HF
  simp only [show dvOf L 5 = .iface 97 (.pointer (some ⟨L.pw, 0, none⟩)) from rfl, show decide (5 < 6) = true from rfl] at HF
  have HC : Hid (∀ w1, Below w.heap.size w w1 → Calls Tryz.prog 143 #[.pointer (some ⟨L.pw, 0, none⟩), .int .u64 a, .int .i64 z, .int .u64 v] w1 fun e w' => e = .returned (.tuple #[]) ∧ ∃ L', PSt B L w1 L' T w') := hC
  have hmt := mth_finisher_store
  clear h hf hC ha hz
  go_enter Tryz.func90, Tryz.ntmps90
  go_wp2_with (first | (go_at_call 57; refine HF.mono ?_; rintro e w1 ⟨rfl, hb1⟩) | (go_at_call 143; refine (HC.out _ hb1).mono ?_; rintro e w2 ⟨rfl, hx⟩; have HX : Hid (∃ L', PSt B L w1 L' T w2) := hx; clear hx))
  go_ret
  obtain ⟨L', hx⟩ := HX.out
  exact ⟨rfl, L', hx.pre hb1⟩
/-- What a load of such a register tells, and what a store leaves. -/
def ctrV (N base a z : Int) : Int := if z = 8 then N else if a = base then N % 4294967296 else N / 4294967296
def ctrW (N base a z v : Int) : Int := if z = 8 then v else if a = base then N / 4294967296 * 4294967296 + v % 4294967296 else v % 4294967296 * 4294967296 + N % 4294967296
theorem hasC_cases {base a z : Int} (h : hasC base a z = true) : (z = 8 ∧ a = base) ∨ (z = 4 ∧ a = base) ∨ (z = 4 ∧ a = base + 4) := by
  unfold hasC at h
  split at h
  · rename_i h4
    simp only [Bool.or_eq_true, beq_iff_eq] at h
    rcases h with h | h
    · exact .inr (.inl ⟨h4, h⟩)
    · exact .inr (.inr ⟨h4, h⟩)
  · split at h
    · rename_i h8
      simp only [beq_iff_eq] at h
      exact .inl ⟨h8, h⟩
    · cases h
theorem n64_nat (x : BitVec 64) : n64 x = ((x.toNat : Nat) : Int) := rfl
theorem ctr_load {base a z : Int} (h : hasC base a z = true) (hb : 0 ≤ base ∧ base ≤ 4294967296) (g : Nat) (x : BitVec 64) (w : World) (c0 : w.cell? ⟨g, 0, none⟩ = some (.int .u64 base)) (c1 : w.cell? ⟨g, 1, none⟩ = some (.int .u64 (n64 x))) :
    Calls Tryz.prog 148 #[.pointer (some ⟨g, 0, none⟩), .int .u64 a, .int .i64 z] w fun e w' => e = .returned (.int .u64 (ctrV (n64 x) base a z)) ∧ Below w.heap.size w w' := by
  have hx := x.isLt
  rcases hasC_cases h with ⟨rfl, rfl⟩ | ⟨rfl, rfl⟩ | ⟨rfl, rfl⟩
  · have e : ctrV (n64 x) a a 8 = ((prt x.toNat 0 8 : Nat) : Int) := by rw [prt_all _ (by omega)]; rfl
    rw [e]
    have := ctrLoad_c g a x 0 8 (.inl ⟨rfl, rfl⟩) hb w c0 c1
    rw [show a + ((0 : Nat) : Int) = a by omega] at this
    exact this
  · have e : ctrV (n64 x) a a 4 = ((prt x.toNat 0 4 : Nat) : Int) := by
      rw [prt_low]; unfold ctrV; rw [if_neg (by decide), if_pos rfl, n64_nat]; rfl
    rw [e]
    have := ctrLoad_c g a x 0 4 (.inr (.inl ⟨rfl, rfl⟩)) hb w c0 c1
    rw [show a + ((0 : Nat) : Int) = a by omega] at this
    exact this
  · have e : ctrV (n64 x) base (base + 4) 4 = ((prt x.toNat 4 4 : Nat) : Int) := by
      rw [prt_high _ (by omega)]; unfold ctrV; rw [if_neg (by decide), if_neg (by omega), n64_nat]; rfl
    rw [e]
    exact ctrLoad_c g base x 4 4 (.inr (.inr ⟨rfl, rfl⟩)) hb w c0 c1
theorem ctr_store {base a z : Int} (h : hasC base a z = true) (hb : 0 ≤ base ∧ base ≤ 4294967296) (g : Nat) (x y : BitVec 64) (w : World) (hg : w.heap[g]? = some (.cells #[.int .u64 base, .int .u64 (n64 x)] 110 (0, 0))) :
    Calls Tryz.prog 149 #[.pointer (some ⟨g, 0, none⟩), .int .u64 a, .int .i64 z, .int .u64 (n64 y)] w fun e w' => e = .returned (.tuple #[]) ∧ ∃ w1, Below w.heap.size w w1 ∧ w' = w1.setCell ⟨g, 1, none⟩ (.int .u64 (ctrW (n64 x) base a z (n64 y))) := by
  have hx := x.isLt
  have hy := y.isLt
  rcases hasC_cases h with ⟨rfl, rfl⟩ | ⟨rfl, rfl⟩ | ⟨rfl, rfl⟩
  · have e : ctrW (n64 x) a a 8 (n64 y) = ((wrt x.toNat 0 8 y.toNat : Nat) : Int) := by rw [wrt_all _ _ (by omega)]; rfl
    rw [e]
    have := ctrStore_c g a x y 0 8 (.inl ⟨rfl, rfl⟩) hb w hg
    rw [show a + ((0 : Nat) : Int) = a by omega] at this
    exact this
  · have e : ctrW (n64 x) a a 4 (n64 y) = ((wrt x.toNat 0 4 y.toNat : Nat) : Int) := by
      rw [wrt_low _ _ (by omega)]; unfold ctrW; rw [if_neg (by decide), if_pos rfl, n64_nat, n64_nat]; omega
    rw [e]
    have := ctrStore_c g a x y 0 4 (.inr (.inl ⟨rfl, rfl⟩)) hb w hg
    rw [show a + ((0 : Nat) : Int) = a by omega] at this
    exact this
  · have e : ctrW (n64 x) base (base + 4) 4 (n64 y) = ((wrt x.toNat 4 4 y.toNat : Nat) : Int) := by
      rw [wrt_high]; unfold ctrW; rw [if_neg (by decide), if_neg (by omega), n64_nat, n64_nat]; omega
    rw [e]
    exact ctrStore_c g base x y 4 4 (.inr (.inr ⟨rfl, rfl⟩)) hb w hg
/-- A load: its value, whether something is there, and the state behind it. -/
def St.ld (S : St) (a z : Int) : (Int × Bool) × St := match fnd S.ram.length a z with
  | 0 => ((((tk ((S.ram.drop (a - 2147483648).toNat).take z.toNat) : Nat) : Int), true), S)
  | 1 => (((S.tel (a - 268435456).toNat).1, true), (S.tel (a - 268435456).toNat).2)
  | 2 => ((ctrV S.time 33603576 a z, true), S)
  | 3 => ((ctrV S.cmp 33570816 a z, true), S)
  | 4 => ((S.msip, true), S)
  | 5 => ((0, true), S)
  | _ => ((0, false), S)
/-- A store. -/
def St.sto2 (S : St) (a z v : Int) : Bool × St := match fnd S.ram.length a z with
  | 0 => (true, S.put (a - 2147483648).toNat z.toNat v.toNat)
  | 1 => (true, S.tak (a - 268435456).toNat v)
  | 2 => (true, { S with time := ctrW S.time 33603576 a z v })
  | 3 => (true, { S with cmp := ctrW S.cmp 33570816 a z v })
  | 4 => (true, { S with msip := v % 2 })
  | 5 => (true, S.fin v)
  | _ => (false, S)
theorem fnd_1 {n : Nat} {a z : Int} (h : fnd n a z = 1) : hasU a z = true := by
  unfold fnd at h; repeat' split at h
  all_goals first | assumption | (exfalso; omega)
theorem fnd_2 {n : Nat} {a z : Int} (h : fnd n a z = 2) : hasC 33603576 a z = true := by
  unfold fnd at h; repeat' split at h
  all_goals first | assumption | (exfalso; omega)
theorem fnd_3 {n : Nat} {a z : Int} (h : fnd n a z = 3) : hasC 33570816 a z = true := by
  unfold fnd at h; repeat' split at h
  all_goals first | assumption | (exfalso; omega)
theorem hasU_reg {a z : Int} (h : hasU a z = true) : ∃ r : Nat, r < 8 ∧ a = 268435456 + (r : Int) ∧ (a - 268435456).toNat = r := by
  unfold hasU at h
  simp only [Bool.and_eq_true, decide_eq_true_eq] at h
  exact ⟨(a - 268435456).toNat, by omega, by omega, rfl⟩
theorem fnd_cases (n : Nat) (a z : Int) : fnd n a z = 0 ∨ fnd n a z = 1 ∨ fnd n a z = 2 ∨ fnd n a z = 3 ∨ fnd n a z = 4 ∨ fnd n a z = 5 ∨ fnd n a z = 6 := by
  have := fnd_le n a z; omega
theorem Load_c {B : Nat} {L : Lay} {S : St} (w : World) (h : PB B L S w) (hn : S.ram.length ≤ 65536) (a z : Int) (ha : 0 ≤ a ∧ a ≤ 18446744073709551615) (hz : -9223372036854775808 ≤ z ∧ z ≤ 9223372036854775807) (hw : StW S) (h64 : S.inp.length ≤ 64) :
    Calls Tryz.prog 89 #[.pointer (some ⟨L.b, 0, none⟩), .int .u64 a, .int .i64 z] w fun e w' => e = .returned (.tuple #[.int .u64 (S.ld a z).1.1, .bool (S.ld a z).1.2]) ∧ ∃ L', PSt B L w L' (S.ld a z).2 w' := by
  rcases fnd_cases S.ram.length a z with hf | hf | hf | hf | hf | hf | hf
  · obtain ⟨k, s, rfl, rfl, hk, hs, h8⟩ := hasM_nat (fnd_zero hf)
    have e : S.ld (2147483648 + (k : Int)) s = ((((tk ((S.ram.drop k).take s) : Nat) : Int), true), S) := by
      unfold St.ld; rw [hf]; simp only; rw [show (2147483648 + (k : Int) - 2147483648).toNat = k by omega]; rfl
    rw [e]
    exact (load_ram w h hw.r hn k s hk hs h8 hf).mono fun e w' ⟨he, hb⟩ => ⟨he, L, .quiet h hb⟩
  · obtain ⟨r, hr, rfl, hrn⟩ := hasU_reg (fnd_1 hf)
    have e : S.ld (268435456 + (r : Int)) z = (((S.tel r).1, true), (S.tel r).2) := by unfold St.ld; rw [hf]; simp only; rw [hrn]
    rw [e]
    exact load_d1 w h hn _ z ha hz hf _ _ (fun w1 hb => uartLoad_c w1 (h.later hb) hw h64 r hr z)
  · have e : S.ld a z = ((ctrV S.time 33603576 a z, true), S) := by simp only [St.ld, hf]
    rw [e]
    obtain ⟨x, hx⟩ := n64_of (n := S.time) (WalkArith.wf_u64 hw.time)
    refine load_d2 w h hn a z ha hz hf _ _ (fun w1 hb => ?_)
    have h1 := h.later hb
    rw [hx]
    exact (ctr_load (fnd_2 hf) (by decide) L.ck x w1 h1.cl.k0 (by rw [← hx]; exact h1.cl.k1)).mono fun e w' ⟨he, hb⟩ => ⟨he, L, .quiet h1 hb⟩
  · have e : S.ld a z = ((ctrV S.cmp 33570816 a z, true), S) := by simp only [St.ld, hf]
    rw [e]
    obtain ⟨x, hx⟩ := n64_of (n := S.cmp) (WalkArith.wf_u64 hw.cmp)
    refine load_d3 w h hn a z ha hz hf _ _ (fun w1 hb => ?_)
    have h1 := h.later hb
    rw [hx]
    exact (ctr_load (fnd_3 hf) (by decide) L.cm x w1 h1.cl.c0 (by rw [← hx]; exact h1.cl.c1)).mono fun e w' ⟨he, hb⟩ => ⟨he, L, .quiet h1 hb⟩
  · have e : S.ld a z = ((S.msip, true), S) := by simp only [St.ld, hf]
    rw [e]
    exact load_d4 w h hn a z ha hz hf _ _ (fun w1 hb => (msipLoad_c w1 (h.later hb) a z hw.msip).mono fun e w' ⟨he, hb2⟩ => ⟨he, L, .quiet (h.later hb) hb2⟩)
  · have e : S.ld a z = ((0, true), S) := by simp only [St.ld, hf]
    rw [e]
    exact load_d5 w h hn a z ha hz hf _ _ (fun w1 hb => (finLoad_c w1 (h.later hb) a z).mono fun e w' ⟨he, hb2⟩ => ⟨he, L, .quiet (h.later hb) hb2⟩)
  · have e : S.ld a z = ((0, false), S) := by simp only [St.ld, hf]
    rw [e]
    exact (load_none w h hn a z ha hz hf).mono fun e w' ⟨he, hb⟩ => ⟨he, L, .quiet h hb⟩
theorem Store_c {B : Nat} {L : Lay} {S : St} (w : World) (h : PB B L S w) (hn : S.ram.length ≤ 65536) (a z : Int) (ha : 0 ≤ a ∧ a ≤ 18446744073709551615) (hz : -9223372036854775808 ≤ z ∧ z ≤ 9223372036854775807) (hw : StW S) (y : BitVec 64) :
    Calls Tryz.prog 90 #[.pointer (some ⟨L.b, 0, none⟩), .int .u64 a, .int .i64 z, .int .u64 (n64 y)] w fun e w' => e = .returned (.bool (S.sto2 a z (n64 y)).1) ∧ ∃ L', PSt B L w L' (S.sto2 a z (n64 y)).2 w' := by
  have hy : 0 ≤ n64 y ∧ n64 y ≤ 18446744073709551615 := ⟨n64_lo y, n64_hi y⟩
  rcases fnd_cases S.ram.length a z with hf | hf | hf | hf | hf | hf | hf
  · obtain ⟨k, s, rfl, rfl, hk, hs, h8⟩ := hasM_nat (fnd_zero hf)
    have e : S.sto2 (2147483648 + (k : Int)) s (n64 y) = (true, S.put k s y.toNat) := by
      unfold St.sto2; rw [hf]; simp only; rw [show (2147483648 + (k : Int) - 2147483648).toNat = k by omega]; rfl
    rw [e]
    exact (store_ram y w h hn k s hk hs h8 hf).mono fun e w' ⟨he, hp, hx⟩ => ⟨he, L, .same hp hx⟩
  · obtain ⟨r, hr, rfl, hrn⟩ := hasU_reg (fnd_1 hf)
    have e : S.sto2 (268435456 + (r : Int)) z (n64 y) = (true, S.tak r (n64 y)) := by unfold St.sto2; rw [hf]; simp only; rw [hrn]
    rw [e]
    exact store_d1 w h hn _ z ha hz _ hf _ (fun w1 hb => uartStore_c w1 (h.later hb) r hr z y)
  · have e : S.sto2 a z (n64 y) = (true, { S with time := ctrW S.time 33603576 a z (n64 y) }) := by simp only [St.sto2, hf]
    rw [e]
    obtain ⟨x, hx⟩ := n64_of (n := S.time) (WalkArith.wf_u64 hw.time)
    refine store_d2 w h hn a z ha hz _ hf _ (fun w1 hb => ?_)
    have h1 := h.later hb
    refine (ctr_store (fnd_2 hf) (by decide) L.ck x y w1 (by rw [← hx]; exact h1.hk)).mono ?_
    rintro e w' ⟨rfl, w2, hb2, rfl⟩
    refine ⟨rfl, L, ?_⟩
    rw [← hx]
    exact .pre hb2 (.same ((h1.later hb2).set_time _) (exc_set L _ _ _ _ h1.own_ck))
  · have e : S.sto2 a z (n64 y) = (true, { S with cmp := ctrW S.cmp 33570816 a z (n64 y) }) := by simp only [St.sto2, hf]
    rw [e]
    obtain ⟨x, hx⟩ := n64_of (n := S.cmp) (WalkArith.wf_u64 hw.cmp)
    refine store_d3 w h hn a z ha hz _ hf _ (fun w1 hb => ?_)
    have h1 := h.later hb
    refine (ctr_store (fnd_3 hf) (by decide) L.cm x y w1 (by rw [← hx]; exact h1.hc)).mono ?_
    rintro e w' ⟨rfl, w2, hb2, rfl⟩
    refine ⟨rfl, L, ?_⟩
    rw [← hx]
    exact .pre hb2 (.same ((h1.later hb2).set_cmp _) (exc_set L _ _ _ _ h1.own_cm))
  · have e : S.sto2 a z (n64 y) = (true, { S with msip := n64 y % 2 }) := by simp only [St.sto2, hf]
    rw [e]
    exact store_d4 w h hn a z ha hz _ hf _ (fun w1 hb => (msipStore_c w1 (h.later hb) a z _ hy).mono fun e w' ⟨he, hp, hx⟩ => ⟨he, L, .same hp hx⟩)
  · have e : S.sto2 a z (n64 y) = (true, S.fin (n64 y)) := by simp only [St.sto2, hf]
    rw [e]
    exact store_d5 w h hn a z ha hz _ hf _ (fun w1 hb => (finStore_c w1 (h.later hb) a z _ hy).mono fun e w' ⟨he, hp, hx⟩ => ⟨he, L, .same hp hx⟩)
  · have e : S.sto2 a z (n64 y) = (false, S) := by simp only [St.sto2, hf]
    rw [e]
    exact (store_none w h hn a z _ ha hz hf).mono fun e w' ⟨he, hb⟩ => ⟨he, L, .quiet h hb⟩
end Go.Proofs.YtlhgphokfpnfeaaGreatDoor
namespace Go.Proofs.YtlhgphokfpnfeaaGreatDoor
set_option linter.unusedVariables false
open Go.ChangeShapes Go.WideShapes Go.ChangeAt Go.RowKit Go.Deep
theorem PB.drew {B : Nat} {L : Lay} {S : St} {w : World} (h : PB B L S w) : PB B L S w.drew := ⟨h.hb, h.hm, h.hp, h.hs, h.hc, h.hk, h.hu, h.hq, h.wr, h.wi, h.wo, h.ri, h.ro, h.io, h.lb, h.lm, h.lp, h.ls, h.lc, h.lk, h.lu, h.lq⟩
end Go.Proofs.YtlhgphokfpnfeaaGreatDoor
namespace Go.Proofs.YtlhgphokfpnfeaaGreatDoor
set_option linter.unusedVariables false
open Go.ChangeShapes Go.WideShapes Go.ChangeAt Go.RowKit Go.Deep
/-- One call of a story. -/
structure Cal where
  k : Int
  a : Int
  n : Int
  v : Int
  ab : Option Addr
  b : List Int
  cb : Nat
  t : Bool
  e : Bool
  s : Bool
  ai : Option Addr
  i : List Int
  ci : Nat
def cal0 : Cal := ⟨0, 0, 0, 0, none, [], 0, false, false, false, none, [], 0⟩
def calv (x : Cal) : List Value := [.int .i64 x.k, .int .u64 x.a, .int .i64 x.n, .int .u64 x.v, .slice x.ab x.b.length x.cb, .bool x.t, .bool x.e, .bool x.s, .slice x.ai x.i.length x.ci]
structure CalOk (w : World) (x : Cal) : Prop where
  b : Byt w (.slice x.ab x.b.length x.cb) x.b
  ba : AllB x.b
  bl : x.b.length ≤ 140737488351232
  i : Byt w (.slice x.ai x.i.length x.ci) x.i
  ia : AllB x.i
  il : x.i.length ≤ 140737488351232
  k : -9223372036854775808 ≤ x.k ∧ x.k ≤ 9223372036854775807
  a : 0 ≤ x.a ∧ x.a ≤ 18446744073709551615
  n : -9223372036854775808 ≤ x.n ∧ x.n ≤ 9223372036854775807
  v : 0 ≤ x.v ∧ x.v ≤ 18446744073709551615
section
variable {H : Type} {enc : TypeId × Value → H} {w : World} {base : Nat} {held : Bool}
theorem choose_list {α : Type} (d : α) {P : Nat → α → Prop} (n : Nat) : (∀ i, i < n → ∃ x, P i x) → ∃ L : List α, L.length = n ∧ ∀ i, i < n → P i (L.getD i d) := by
  induction n with
  | zero => intro _; exact ⟨[], rfl, fun i hi => by omega⟩
  | succ n ih =>
    intro h
    obtain ⟨L, hl, hp⟩ := ih (fun i hi => h i (by omega))
    obtain ⟨x, hx⟩ := h n (by omega)
    refine ⟨L ++ [x], by rw [List.length_append, hl]; rfl, fun i hi => ?_⟩
    by_cases e : i = n
    · subst e
      have : (L ++ [x]).getD i d = x := by unfold List.getD; rw [List.getElem?_append_right (by omega), hl, Nat.sub_self]; rfl
      rw [this]; exact hx
    · have : (L ++ [x]).getD i d = L.getD i d := by unfold List.getD; rw [List.getElem?_append_left (by omega)]
      rw [this]; exact hp i (by omega)
/-- A list of calls in memory. -/
def Cals (w : World) (v : Value) (O : List Cal) : Prop :=
  ∃ a cap, v = .slice a O.length cap ∧ O.length ≤ cap ∧ (O ≠ [] → ∃ g off, a = some ⟨g, off, none⟩ ∧ g < w.heap.size ∧ ∀ j, j < O.length → ∀ c, c < 9 → w.cell? ⟨g, off + j * 9 + c, none⟩ = (calv (O.getD j cal0))[c]?)
theorem Cals.later {w w' : World} {v : Value} {O : List Cal} (h : Cals w v O) (hb : Below w.heap.size w w') : Cals w' v O := by
  obtain ⟨a, cap, rfl, h1, h2⟩ := h
  refine ⟨a, cap, rfl, h1, fun hn => ?_⟩
  obtain ⟨g, off, rfl, h3, h4⟩ := h2 hn
  exact ⟨g, off, rfl, Nat.lt_of_lt_of_le h3 hb.size, fun j hj c hc => by rw [hb.cell h3]; exact h4 j hj c hc⟩
end
end Go.Proofs.YtlhgphokfpnfeaaGreatDoor
