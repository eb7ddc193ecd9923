import Derived.Test.YtdpfjhacmlnklaaGreatDoorK09
namespace Go.Proofs.YtdpfjhacmlnklaaGreatDoor
set_option linter.unusedVariables false
set_option maxRecDepth 100000
set_option maxHeartbeats 8000000
open Go.ChangeShapes Go.WideShapes Go.ChangeAt Go.RowKit Go.Deep Go.MuLone _root_.Go.Proofs.Tryz
theorem vX {B : Nat} {L : Lay} {S : St} (w : World) (h : PB B L S w) (hn : S.ram.length ≤ 65536) (a z : Int) (ha : 0 ≤ a ∧ a ≤ 18446744073709551615) (hz : -9223372036854775808 ≤ z ∧ z ≤ 9223372036854775807) (hf : fnd S.ram.length a z = 1) (v : Int) (T : St)
  (hC : ∀ w1, Below w.heap.size w w1 → Calls prog 153 #[.pointer (some ⟨L.u, 0, none⟩), .int .u64 a, .int .i64 z] w1 fun e w' => e = .returned (.int .u64 v) ∧ ∃ L', PSt B L w1 L' T w') :
  Calls prog 90 #[.pointer (some ⟨L.b, 0, none⟩), .int .u64 a, .int .i64 z] w fun e w' => e = .returned (.tuple #[.int .u64 v, .bool true]) ∧ ∃ L', PSt B L w L' T w' := by
 have HF := cT w h hn a z ha hz
 rw [hf] at HF
 simp only [show fC L 1 = .iface 100 (.pointer (some ⟨L.u, 0, none⟩)) from rfl, show decide (1 < 6) = true from rfl] at HF
 have HC := hid hC
 have hmt := kE
 clear h hf hC ha hz
 go_enter func90, ntmps90
 go_wp2_with (first | (go_at_call 62; refine HF.mono ?_; rintro e w1 ⟨rfl, hb1⟩) | (go_at_call 153; refine (HC.out _ hb1).mono ?_; rintro e w2 ⟨rfl, hx⟩; have HX := hid hx; clear hx))
 go_ret2
 obtain ⟨L', hx⟩ := HX.out
 exact ⟨rfl, L', hx.pre hb1⟩
theorem uF {B : Nat} {L : Lay} {S : St} (w : World) (h : PB B L S w) (hn : S.ram.length ≤ 65536) (a z : Int) (ha : 0 ≤ a ∧ a ≤ 18446744073709551615) (hz : -9223372036854775808 ≤ z ∧ z ≤ 9223372036854775807) (v : Int) (hf : fnd S.ram.length a z = 1) (T : St)
  (hC : ∀ w1, Below w.heap.size w w1 → Calls prog 154 #[.pointer (some ⟨L.u, 0, none⟩), .int .u64 a, .int .i64 z, .int .u64 v] w1 fun e w' => e = .returned (.tuple #[]) ∧ ∃ L', PSt B L w1 L' T w') :
  Calls prog 91 #[.pointer (some ⟨L.b, 0, none⟩), .int .u64 a, .int .i64 z, .int .u64 v] w fun e w' => e = .returned (.bool true) ∧ ∃ L', PSt B L w L' T w' := by
 have HF := cT w h hn a z ha hz
 rw [hf] at HF
 simp only [show fC L 1 = .iface 100 (.pointer (some ⟨L.u, 0, none⟩)) from rfl, show decide (1 < 6) = true from rfl] at HF
 have HC := hid hC
 have hmt := jK
 clear h hf hC ha hz
 go_enter func91, ntmps91
 go_wp2_with (first | (go_at_call 62; refine HF.mono ?_; rintro e w1 ⟨rfl, hb1⟩) | (go_at_call 154; refine (HC.out _ hb1).mono ?_; rintro e w2 ⟨rfl, hx⟩; have HX := hid hx; clear hx))
 go_ret
 obtain ⟨L', hx⟩ := HX.out
 exact ⟨rfl, L', hx.pre hb1⟩
theorem vY {B : Nat} {L : Lay} {S : St} (w : World) (h : PB B L S w) (hn : S.ram.length ≤ 65536) (a z : Int) (ha : 0 ≤ a ∧ a ≤ 18446744073709551615) (hz : -9223372036854775808 ≤ z ∧ z ≤ 9223372036854775807) (hf : fnd S.ram.length a z = 2) (v : Int) (T : St)
  (hC : ∀ w1, Below w.heap.size w w1 → Calls prog 149 #[.pointer (some ⟨L.ck, 0, none⟩), .int .u64 a, .int .i64 z] w1 fun e w' => e = .returned (.int .u64 v) ∧ ∃ L', PSt B L w1 L' T w') :
  Calls prog 90 #[.pointer (some ⟨L.b, 0, none⟩), .int .u64 a, .int .i64 z] w fun e w' => e = .returned (.tuple #[.int .u64 v, .bool true]) ∧ ∃ L', PSt B L w L' T w' := by
 have HF := cT w h hn a z ha hz
 rw [hf] at HF
 simp only [show fC L 2 = .iface 99 (.pointer (some ⟨L.ck, 0, none⟩)) from rfl, show decide (2 < 6) = true from rfl] at HF
 have HC := hid hC
 have hmt := eE
 clear h hf hC ha hz
 go_enter func90, ntmps90
 go_wp2_with (first | (go_at_call 62; refine HF.mono ?_; rintro e w1 ⟨rfl, hb1⟩) | (go_at_call 149; refine (HC.out _ hb1).mono ?_; rintro e w2 ⟨rfl, hx⟩; have HX := hid hx; clear hx))
 go_ret2
 obtain ⟨L', hx⟩ := HX.out
 exact ⟨rfl, L', hx.pre hb1⟩
theorem uG {B : Nat} {L : Lay} {S : St} (w : World) (h : PB B L S w) (hn : S.ram.length ≤ 65536) (a z : Int) (ha : 0 ≤ a ∧ a ≤ 18446744073709551615) (hz : -9223372036854775808 ≤ z ∧ z ≤ 9223372036854775807) (v : Int) (hf : fnd S.ram.length a z = 2) (T : St)
  (hC : ∀ w1, Below w.heap.size w w1 → Calls prog 150 #[.pointer (some ⟨L.ck, 0, none⟩), .int .u64 a, .int .i64 z, .int .u64 v] w1 fun e w' => e = .returned (.tuple #[]) ∧ ∃ L', PSt B L w1 L' T w') :
  Calls prog 91 #[.pointer (some ⟨L.b, 0, none⟩), .int .u64 a, .int .i64 z, .int .u64 v] w fun e w' => e = .returned (.bool true) ∧ ∃ L', PSt B L w L' T w' := by
 have HF := cT w h hn a z ha hz
 rw [hf] at HF
 simp only [show fC L 2 = .iface 99 (.pointer (some ⟨L.ck, 0, none⟩)) from rfl, show decide (2 < 6) = true from rfl] at HF
 have HC := hid hC
 have hmt := dZ
 clear h hf hC ha hz
 go_enter func91, ntmps91
 go_wp2_with (first | (go_at_call 62; refine HF.mono ?_; rintro e w1 ⟨rfl, hb1⟩) | (go_at_call 150; refine (HC.out _ hb1).mono ?_; rintro e w2 ⟨rfl, hx⟩; have HX := hid hx; clear hx))
 go_ret
 obtain ⟨L', hx⟩ := HX.out
 exact ⟨rfl, L', hx.pre hb1⟩
theorem vZ {B : Nat} {L : Lay} {S : St} (w : World) (h : PB B L S w) (hn : S.ram.length ≤ 65536) (a z : Int) (ha : 0 ≤ a ∧ a ≤ 18446744073709551615) (hz : -9223372036854775808 ≤ z ∧ z ≤ 9223372036854775807) (hf : fnd S.ram.length a z = 3) (v : Int) (T : St)
  (hC : ∀ w1, Below w.heap.size w w1 → Calls prog 149 #[.pointer (some ⟨L.cm, 0, none⟩), .int .u64 a, .int .i64 z] w1 fun e w' => e = .returned (.int .u64 v) ∧ ∃ L', PSt B L w1 L' T w') :
  Calls prog 90 #[.pointer (some ⟨L.b, 0, none⟩), .int .u64 a, .int .i64 z] w fun e w' => e = .returned (.tuple #[.int .u64 v, .bool true]) ∧ ∃ L', PSt B L w L' T w' := by
 have HF := cT w h hn a z ha hz
 rw [hf] at HF
 simp only [show fC L 3 = .iface 99 (.pointer (some ⟨L.cm, 0, none⟩)) from rfl, show decide (3 < 6) = true from rfl] at HF
 have HC := hid hC
 have hmt := eE
 clear h hf hC ha hz
 go_enter func90, ntmps90
 go_wp2_with (first | (go_at_call 62; refine HF.mono ?_; rintro e w1 ⟨rfl, hb1⟩) | (go_at_call 149; refine (HC.out _ hb1).mono ?_; rintro e w2 ⟨rfl, hx⟩; have HX := hid hx; clear hx))
 go_ret2
 obtain ⟨L', hx⟩ := HX.out
 exact ⟨rfl, L', hx.pre hb1⟩
theorem uH {B : Nat} {L : Lay} {S : St} (w : World) (h : PB B L S w) (hn : S.ram.length ≤ 65536) (a z : Int) (ha : 0 ≤ a ∧ a ≤ 18446744073709551615) (hz : -9223372036854775808 ≤ z ∧ z ≤ 9223372036854775807) (v : Int) (hf : fnd S.ram.length a z = 3) (T : St)
  (hC : ∀ w1, Below w.heap.size w w1 → Calls prog 150 #[.pointer (some ⟨L.cm, 0, none⟩), .int .u64 a, .int .i64 z, .int .u64 v] w1 fun e w' => e = .returned (.tuple #[]) ∧ ∃ L', PSt B L w1 L' T w') :
  Calls prog 91 #[.pointer (some ⟨L.b, 0, none⟩), .int .u64 a, .int .i64 z, .int .u64 v] w fun e w' => e = .returned (.bool true) ∧ ∃ L', PSt B L w L' T w' := by
 have HF := cT w h hn a z ha hz
 rw [hf] at HF
 simp only [show fC L 3 = .iface 99 (.pointer (some ⟨L.cm, 0, none⟩)) from rfl, show decide (3 < 6) = true from rfl] at HF
 have HC := hid hC
 have hmt := dZ
 clear h hf hC ha hz
 go_enter func91, ntmps91
 go_wp2_with (first | (go_at_call 62; refine HF.mono ?_; rintro e w1 ⟨rfl, hb1⟩) | (go_at_call 150; refine (HC.out _ hb1).mono ?_; rintro e w2 ⟨rfl, hx⟩; have HX := hid hx; clear hx))
 go_ret
 obtain ⟨L', hx⟩ := HX.out
 exact ⟨rfl, L', hx.pre hb1⟩
theorem wA {B : Nat} {L : Lay} {S : St} (w : World) (h : PB B L S w) (hn : S.ram.length ≤ 65536) (a z : Int) (ha : 0 ≤ a ∧ a ≤ 18446744073709551615) (hz : -9223372036854775808 ≤ z ∧ z ≤ 9223372036854775807) (hf : fnd S.ram.length a z = 4) (v : Int) (T : St)
  (hC : ∀ w1, Below w.heap.size w w1 → Calls prog 146 #[.pointer (some ⟨L.sw, 0, none⟩), .int .u64 a, .int .i64 z] w1 fun e w' => e = .returned (.int .u64 v) ∧ ∃ L', PSt B L w1 L' T w') :
  Calls prog 90 #[.pointer (some ⟨L.b, 0, none⟩), .int .u64 a, .int .i64 z] w fun e w' => e = .returned (.tuple #[.int .u64 v, .bool true]) ∧ ∃ L', PSt B L w L' T w' := by
 have HF := cT w h hn a z ha hz
 rw [hf] at HF
 simp only [show fC L 4 = .iface 98 (.pointer (some ⟨L.sw, 0, none⟩)) from rfl, show decide (4 < 6) = true from rfl] at HF
 have HC := hid hC
 have hmt := kD
 clear h hf hC ha hz
 go_enter func90, ntmps90
 go_wp2_with (first | (go_at_call 62; refine HF.mono ?_; rintro e w1 ⟨rfl, hb1⟩) | (go_at_call 146; refine (HC.out _ hb1).mono ?_; rintro e w2 ⟨rfl, hx⟩; have HX := hid hx; clear hx))
 go_ret2
 obtain ⟨L', hx⟩ := HX.out
 exact ⟨rfl, L', hx.pre hb1⟩
theorem uI {B : Nat} {L : Lay} {S : St} (w : World) (h : PB B L S w) (hn : S.ram.length ≤ 65536) (a z : Int) (ha : 0 ≤ a ∧ a ≤ 18446744073709551615) (hz : -9223372036854775808 ≤ z ∧ z ≤ 9223372036854775807) (v : Int) (hf : fnd S.ram.length a z = 4) (T : St)
  (hC : ∀ w1, Below w.heap.size w w1 → Calls prog 147 #[.pointer (some ⟨L.sw, 0, none⟩), .int .u64 a, .int .i64 z, .int .u64 v] w1 fun e w' => e = .returned (.tuple #[]) ∧ ∃ L', PSt B L w1 L' T w') :
  Calls prog 91 #[.pointer (some ⟨L.b, 0, none⟩), .int .u64 a, .int .i64 z, .int .u64 v] w fun e w' => e = .returned (.bool true) ∧ ∃ L', PSt B L w L' T w' := by
 have HF := cT w h hn a z ha hz
 rw [hf] at HF
 simp only [show fC L 4 = .iface 98 (.pointer (some ⟨L.sw, 0, none⟩)) from rfl, show decide (4 < 6) = true from rfl] at HF
 have HC := hid hC
 have hmt := jJ
 clear h hf hC ha hz
 go_enter func91, ntmps91
 go_wp2_with (first | (go_at_call 62; refine HF.mono ?_; rintro e w1 ⟨rfl, hb1⟩) | (go_at_call 147; refine (HC.out _ hb1).mono ?_; rintro e w2 ⟨rfl, hx⟩; have HX := hid hx; clear hx))
 go_ret
 obtain ⟨L', hx⟩ := HX.out
 exact ⟨rfl, L', hx.pre hb1⟩
theorem wB {B : Nat} {L : Lay} {S : St} (w : World) (h : PB B L S w) (hn : S.ram.length ≤ 65536) (a z : Int) (ha : 0 ≤ a ∧ a ≤ 18446744073709551615) (hz : -9223372036854775808 ≤ z ∧ z ≤ 9223372036854775807) (hf : fnd S.ram.length a z = 5) (v : Int) (T : St)
  (hC : ∀ w1, Below w.heap.size w w1 → Calls prog 143 #[.pointer (some ⟨L.pw, 0, none⟩), .int .u64 a, .int .i64 z] w1 fun e w' => e = .returned (.int .u64 v) ∧ ∃ L', PSt B L w1 L' T w') :
  Calls prog 90 #[.pointer (some ⟨L.b, 0, none⟩), .int .u64 a, .int .i64 z] w fun e w' => e = .returned (.tuple #[.int .u64 v, .bool true]) ∧ ∃ L', PSt B L w L' T w' := by
 have HF := cT w h hn a z ha hz
 rw [hf] at HF
 simp only [show fC L 5 = .iface 97 (.pointer (some ⟨L.pw, 0, none⟩)) from rfl, show decide (5 < 6) = true from rfl] at HF
 have HC := hid hC
 have hmt := gE
 clear h hf hC ha hz
 go_enter func90, ntmps90
 go_wp2_with (first | (go_at_call 62; refine HF.mono ?_; rintro e w1 ⟨rfl, hb1⟩) | (go_at_call 143; refine (HC.out _ hb1).mono ?_; rintro e w2 ⟨rfl, hx⟩; have HX := hid hx; clear hx))
 go_ret2
 obtain ⟨L', hx⟩ := HX.out
 exact ⟨rfl, L', hx.pre hb1⟩
theorem uJ {B : Nat} {L : Lay} {S : St} (w : World) (h : PB B L S w) (hn : S.ram.length ≤ 65536) (a z : Int) (ha : 0 ≤ a ∧ a ≤ 18446744073709551615) (hz : -9223372036854775808 ≤ z ∧ z ≤ 9223372036854775807) (v : Int) (hf : fnd S.ram.length a z = 5) (T : St)
  (hC : ∀ w1, Below w.heap.size w w1 → Calls prog 144 #[.pointer (some ⟨L.pw, 0, none⟩), .int .u64 a, .int .i64 z, .int .u64 v] w1 fun e w' => e = .returned (.tuple #[]) ∧ ∃ L', PSt B L w1 L' T w') :
  Calls prog 91 #[.pointer (some ⟨L.b, 0, none⟩), .int .u64 a, .int .i64 z, .int .u64 v] w fun e w' => e = .returned (.bool true) ∧ ∃ L', PSt B L w L' T w' := by
 have HF := cT w h hn a z ha hz
 rw [hf] at HF
 simp only [show fC L 5 = .iface 97 (.pointer (some ⟨L.pw, 0, none⟩)) from rfl, show decide (5 < 6) = true from rfl] at HF
 have HC := hid hC
 have hmt := fW
 clear h hf hC ha hz
 go_enter func91, ntmps91
 go_wp2_with (first | (go_at_call 62; refine HF.mono ?_; rintro e w1 ⟨rfl, hb1⟩) | (go_at_call 144; refine (HC.out _ hb1).mono ?_; rintro e w2 ⟨rfl, hx⟩; have HX := hid hx; clear hx))
 go_ret
 obtain ⟨L', hx⟩ := HX.out
 exact ⟨rfl, L', hx.pre hb1⟩
def gA (N base a z : Int) : Int := if z = 8 then N else if a = base then N % 4294967296 else N / 4294967296
def gP (N base a z v : Int) : Int := if z = 8 then v else if a = base then N / 4294967296 * 4294967296 + v % 4294967296 else v % 4294967296 * 4294967296 + N % 4294967296
theorem eQ {base a z : Int} (h : dW base a z = true) : (z = 8 ∧ a = base) ∨ (z = 4 ∧ a = base) ∨ (z = 4 ∧ a = base + 4) := by
 unfold dW at h
 split at h
 ·rename_i h4
  simp only [Bool.or_eq_true, beq_iff_eq] at h
  rcases h with h | h
  ·exact .inr (.inl ⟨h4, h⟩)
  ·exact .inr (.inr ⟨h4, h⟩)
 ·split at h
  ·rename_i h8
   simp only [beq_iff_eq] at h
   exact .inl ⟨h8, h⟩
  ·cases h
theorem fM (x : BitVec 64) : n64 x = ((x.toNat : Nat) : Int) := rfl
theorem mB {base a z : Int} (h : dW base a z = true) (hb : 0 ≤ base ∧ base ≤ 4294967296) (g : Nat) (x : BitVec 64) (w : World) (c0 : w.cell? ⟨g, 0, none⟩ = some (.int .u64 base)) (c1 : w.cell? ⟨g, 1, none⟩ = some (.int .u64 (n64 x))) :
  Calls prog 149 #[.pointer (some ⟨g, 0, none⟩), .int .u64 a, .int .i64 z] w fun e w' => e = .returned (.int .u64 (gA (n64 x) base a z)) ∧ Below w.heap.size w w' := by
 have hx := x.isLt
 rcases eQ h with ⟨rfl, rfl⟩ | ⟨rfl, rfl⟩ | ⟨rfl, rfl⟩
 ·have e : gA (n64 x) a a 8 = ((prt x.toNat 0 8 : Nat) : Int) := by rw [xA _ (by omega)]; rfl
  rw [e]
  have := gO g a x 0 8 (.inl ⟨rfl, rfl⟩) hb w c0 c1
  rw [show a + ((0 : Nat) : Int) = a by omega] at this
  exact this
 ·have e : gA (n64 x) a a 4 = ((prt x.toNat 0 4 : Nat) : Int) := by
   rw [xB]; unfold gA; rw [if_neg (by decide), if_pos rfl, fM]; rfl
  rw [e]
  have := gO g a x 0 4 (.inr (.inl ⟨rfl, rfl⟩)) hb w c0 c1
  rw [show a + ((0 : Nat) : Int) = a by omega] at this
  exact this
 ·have e : gA (n64 x) base (base + 4) 4 = ((prt x.toNat 4 4 : Nat) : Int) := by
   rw [tY _ (by omega)]; unfold gA; rw [if_neg (by decide), if_neg (by omega), fM]; rfl
  rw [e]
  exact gO g base x 4 4 (.inr (.inr ⟨rfl, rfl⟩)) hb w c0 c1
theorem kL {base a z : Int} (h : dW base a z = true) (hb : 0 ≤ base ∧ base ≤ 4294967296) (g : Nat) (x y : BitVec 64) (w : World) (hg : w.heap[g]? = some (.cells #[.int .u64 base, .int .u64 (n64 x)] 110 (0, 0))) :
  Calls prog 150 #[.pointer (some ⟨g, 0, none⟩), .int .u64 a, .int .i64 z, .int .u64 (n64 y)] w fun e w' => e = .returned (.tuple #[]) ∧ ∃ w1, Below w.heap.size w w1 ∧ w' = w1.setCell ⟨g, 1, none⟩ (.int .u64 (gP (n64 x) base a z (n64 y))) := by
 have hx := x.isLt
 have hy := y.isLt
 rcases eQ h with ⟨rfl, rfl⟩ | ⟨rfl, rfl⟩ | ⟨rfl, rfl⟩
 ·have e : gP (n64 x) a a 8 (n64 y) = ((wrt x.toNat 0 8 y.toNat : Nat) : Int) := by rw [yC _ _ (by omega)]; rfl
  rw [e]
  have := fV g a x y 0 8 (.inl ⟨rfl, rfl⟩) hb w hg
  rw [show a + ((0 : Nat) : Int) = a by omega] at this
  exact this
 ·have e : gP (n64 x) a a 4 (n64 y) = ((wrt x.toNat 0 4 y.toNat : Nat) : Int) := by
   rw [yD _ _ (by omega)]; unfold gP; rw [if_neg (by decide), if_pos rfl, fM, fM]; omega
  rw [e]
  have := fV g a x y 0 4 (.inr (.inl ⟨rfl, rfl⟩)) hb w hg
  rw [show a + ((0 : Nat) : Int) = a by omega] at this
  exact this
 ·have e : gP (n64 x) base (base + 4) 4 (n64 y) = ((wrt x.toNat 4 4 y.toNat : Nat) : Int) := by
   rw [uU]; unfold gP; rw [if_neg (by decide), if_neg (by omega), fM, fM]; omega
  rw [e]
  exact fV g base x y 4 4 (.inr (.inr ⟨rfl, rfl⟩)) hb w hg
def St.ld (S : St) (a z : Int) : (Int × Bool) × St := match fnd S.ram.length a z with
 | 0 => ((((tk ((S.ram.drop (a - 2147483648).toNat).take z.toNat) : Nat) : Int), true), S)
 | 1 => (((S.tel (a - 268435456).toNat).1, true), (S.tel (a - 268435456).toNat).2)
 | 2 => ((gA S.time 33603576 a z, true), S)
 | 3 => ((gA S.cmp 33570816 a z, true), S)
 | 4 => ((S.msip, true), S)
 | 5 => ((0, true), S)
 | _ => ((0, false), S)
def St.sto2 (S : St) (a z v : Int) : Bool × St := match fnd S.ram.length a z with
 | 0 => (true, S.put (a - 2147483648).toNat z.toNat v.toNat)
 | 1 => (true, S.tak (a - 268435456).toNat v)
 | 2 => (true, { S with time := gP S.time 33603576 a z v })
 | 3 => (true, { S with cmp := gP S.cmp 33570816 a z v })
 | 4 => (true, { S with msip := v % 2 })
 | 5 => (true, S.fin v)
 | _ => (false, S)
theorem sD {n : Nat} {a z : Int} (h : fnd n a z = 1) : gB a z = true := by
 unfold fnd at h; repeat' split at h
 all_goals first | assumption | (exfalso; omega)
theorem sE {n : Nat} {a z : Int} (h : fnd n a z = 2) : dW 33603576 a z = true := by
 unfold fnd at h; repeat' split at h
 all_goals first | assumption | (exfalso; omega)
theorem sG {n : Nat} {a z : Int} (h : fnd n a z = 3) : dW 33570816 a z = true := by
 unfold fnd at h; repeat' split at h
 all_goals first | assumption | (exfalso; omega)
theorem jA {a z : Int} (h : gB a z = true) : ∃ r : Nat, r < 8 ∧ a = 268435456 + (r : Int) ∧ (a - 268435456).toNat = r := by
 unfold gB at h
 simp only [Bool.and_eq_true, decide_eq_true_eq] at h
 exact ⟨(a - 268435456).toNat, by omega, by omega, rfl⟩
theorem eC (n : Nat) (a z : Int) : fnd n a z = 0 ∨ fnd n a z = 1 ∨ fnd n a z = 2 ∨ fnd n a z = 3 ∨ fnd n a z = 4 ∨ fnd n a z = 5 ∨ fnd n a z = 6 := by
 have := zK n a z; omega
theorem eZ {B : Nat} {L : Lay} {S : St} (w : World) (h : PB B L S w) (hn : S.ram.length ≤ 65536) (a z : Int) (ha : 0 ≤ a ∧ a ≤ 18446744073709551615) (hz : -9223372036854775808 ≤ z ∧ z ≤ 9223372036854775807) (hw : StW S) (h64 : S.inp.length ≤ 64) :
  Calls prog 90 #[.pointer (some ⟨L.b, 0, none⟩), .int .u64 a, .int .i64 z] w fun e w' => e = .returned (.tuple #[.int .u64 (S.ld a z).1.1, .bool (S.ld a z).1.2]) ∧ ∃ L', PSt B L w L' (S.ld a z).2 w' := by
 rcases eC S.ram.length a z with hf | hf | hf | hf | hf | hf | hf
 ·obtain ⟨k, s, rfl, rfl, hk, hs, h8⟩ := iZ (iY hf)
  have e : S.ld (2147483648 + (k : Int)) s = ((((tk ((S.ram.drop k).take s) : Nat) : Int), true), S) := by
   unfold St.ld; rw [hf]; simp only; rw [show (2147483648 + (k : Int) - 2147483648).toNat = k by omega]; rfl
  rw [e]
  exact (sW w h hw.r hn k s hk hs h8 hf).mono fun e w' ⟨he, hb⟩ => ⟨he, L, .quiet h hb⟩
 ·obtain ⟨r, hr, rfl, hrn⟩ := jA (sD hf)
  have e : S.ld (268435456 + (r : Int)) z = (((S.tel r).1, true), (S.tel r).2) := by unfold St.ld; rw [hf]; simp only; rw [hrn]
  rw [e]
  exact vX w h hn _ z ha hz hf _ _ (fun w1 hb => oA w1 (h.later hb) hw h64 r hr z)
 ·have e : S.ld a z = ((gA S.time 33603576 a z, true), S) := by simp only [St.ld, hf]
  rw [e]
  obtain ⟨x, hx⟩ := bW (n := S.time) (WalkArith.wf_u64 hw.time)
  refine vY w h hn a z ha hz hf _ _ (fun w1 hb => ?_)
  have h1 := h.later hb
  rw [hx]
  exact (mB (sE hf) (by decide) L.ck x w1 h1.cl.k0 (by rw [← hx]; exact h1.cl.k1)).mono fun e w' ⟨he, hb⟩ => ⟨he, L, .quiet h1 hb⟩
 ·have e : S.ld a z = ((gA S.cmp 33570816 a z, true), S) := by simp only [St.ld, hf]
  rw [e]
  obtain ⟨x, hx⟩ := bW (n := S.cmp) (WalkArith.wf_u64 hw.cmp)
  refine vZ w h hn a z ha hz hf _ _ (fun w1 hb => ?_)
  have h1 := h.later hb
  rw [hx]
  exact (mB (sG hf) (by decide) L.cm x w1 h1.cl.c0 (by rw [← hx]; exact h1.cl.c1)).mono fun e w' ⟨he, hb⟩ => ⟨he, L, .quiet h1 hb⟩
 ·have e : S.ld a z = ((S.msip, true), S) := by simp only [St.ld, hf]
  rw [e]
  exact wA w h hn a z ha hz hf _ _ (fun w1 hb => (nO w1 (h.later hb) a z hw.msip).mono fun e w' ⟨he, hb2⟩ => ⟨he, L, .quiet (h.later hb) hb2⟩)
 ·have e : S.ld a z = ((0, true), S) := by simp only [St.ld, hf]
  rw [e]
  exact wB w h hn a z ha hz hf _ _ (fun w1 hb => (qA w1 (h.later hb) a z).mono fun e w' ⟨he, hb2⟩ => ⟨he, L, .quiet (h.later hb) hb2⟩)
 ·have e : S.ld a z = ((0, false), S) := by simp only [St.ld, hf]
  rw [e]
  exact (qE w h hn a z ha hz hf).mono fun e w' ⟨he, hb⟩ => ⟨he, L, .quiet h hb⟩
theorem dX {B : Nat} {L : Lay} {S : St} (w : World) (h : PB B L S w) (hn : S.ram.length ≤ 65536) (a z : Int) (ha : 0 ≤ a ∧ a ≤ 18446744073709551615) (hz : -9223372036854775808 ≤ z ∧ z ≤ 9223372036854775807) (hw : StW S) (y : BitVec 64) :
  Calls prog 91 #[.pointer (some ⟨L.b, 0, none⟩), .int .u64 a, .int .i64 z, .int .u64 (n64 y)] w fun e w' => e = .returned (.bool (S.sto2 a z (n64 y)).1) ∧ ∃ L', PSt B L w L' (S.sto2 a z (n64 y)).2 w' := by
 have hy : 0 ≤ n64 y ∧ n64 y ≤ 18446744073709551615 := ⟨bB y, bI y⟩
 rcases eC S.ram.length a z with hf | hf | hf | hf | hf | hf | hf
 ·obtain ⟨k, s, rfl, rfl, hk, hs, h8⟩ := iZ (iY hf)
  have e : S.sto2 (2147483648 + (k : Int)) s (n64 y) = (true, S.put k s y.toNat) := by
   unfold St.sto2; rw [hf]; simp only; rw [show (2147483648 + (k : Int) - 2147483648).toNat = k by omega]; rfl
  rw [e]
  exact (qO y w h hn k s hk hs h8 hf).mono fun e w' ⟨he, hp, hx⟩ => ⟨he, L, .same hp hx⟩
 ·obtain ⟨r, hr, rfl, hrn⟩ := jA (sD hf)
  have e : S.sto2 (268435456 + (r : Int)) z (n64 y) = (true, S.tak r (n64 y)) := by unfold St.sto2; rw [hf]; simp only; rw [hrn]
  rw [e]
  exact uF w h hn _ z ha hz _ hf _ (fun w1 hb => mX w1 (h.later hb) r hr z y)
 ·have e : S.sto2 a z (n64 y) = (true, { S with time := gP S.time 33603576 a z (n64 y) }) := by simp only [St.sto2, hf]
  rw [e]
  obtain ⟨x, hx⟩ := bW (n := S.time) (WalkArith.wf_u64 hw.time)
  refine uG w h hn a z ha hz _ hf _ (fun w1 hb => ?_)
  have h1 := h.later hb
  refine (kL (sE hf) (by decide) L.ck x y w1 (by rw [← hx]; exact h1.hk)).mono ?_
  rintro e w' ⟨rfl, w2, hb2, rfl⟩
  refine ⟨rfl, L, ?_⟩
  rw [← hx]
  exact .pre hb2 (.same ((h1.later hb2).set_time _) (cS L _ _ _ _ h1.own_ck))
 ·have e : S.sto2 a z (n64 y) = (true, { S with cmp := gP S.cmp 33570816 a z (n64 y) }) := by simp only [St.sto2, hf]
  rw [e]
  obtain ⟨x, hx⟩ := bW (n := S.cmp) (WalkArith.wf_u64 hw.cmp)
  refine uH w h hn a z ha hz _ hf _ (fun w1 hb => ?_)
  have h1 := h.later hb
  refine (kL (sG hf) (by decide) L.cm x y w1 (by rw [← hx]; exact h1.hc)).mono ?_
  rintro e w' ⟨rfl, w2, hb2, rfl⟩
  refine ⟨rfl, L, ?_⟩
  rw [← hx]
  exact .pre hb2 (.same ((h1.later hb2).set_cmp _) (cS L _ _ _ _ h1.own_cm))
 ·have e : S.sto2 a z (n64 y) = (true, { S with msip := n64 y % 2 }) := by simp only [St.sto2, hf]
  rw [e]
  exact uI w h hn a z ha hz _ hf _ (fun w1 hb => (mN w1 (h.later hb) a z _ hy).mono fun e w' ⟨he, hp, hx⟩ => ⟨he, L, .same hp hx⟩)
 ·have e : S.sto2 a z (n64 y) = (true, S.fin (n64 y)) := by simp only [St.sto2, hf]
  rw [e]
  exact uJ w h hn a z ha hz _ hf _ (fun w1 hb => (nE w1 (h.later hb) a z _ hy).mono fun e w' ⟨he, hp, hx⟩ => ⟨he, L, .same hp hx⟩)
 ·have e : S.sto2 a z (n64 y) = (false, S) := by simp only [St.sto2, hf]
  rw [e]
  exact (nX w h hn a z _ ha hz hf).mono fun e w' ⟨he, hb⟩ => ⟨he, L, .quiet h hb⟩
end Go.Proofs.YtdpfjhacmlnklaaGreatDoor
