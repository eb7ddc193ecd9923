import Derived.Test.YtddlmenfcbjoaaaGreatDoorK08
namespace Go.Proofs.YtddlmenfcbjoaaaGreatDoor
set_option linter.unusedVariables false
set_option maxRecDepth 100000
set_option maxHeartbeats 8000000
open Go.ChangeShapes Go.WideShapes Go.ChangeAt Go.RowKit Go.Deep Go.MuLone _root_.Go.Proofs.Tryz
theorem PM {B : Nat} {L : Lay} {S : St} (w : World) (h : PB B L S w) (hn : S.ram.length ≤ 65536) (a z : Int) (ha : 0 ≤ a ∧ a ≤ 18446744073709551615) (hz : -9223372036854775808 ≤ z ∧ z ≤ 9223372036854775807) (hf : fnd S.ram.length a z = 1) (v : Int) (T : St)
  (hC : ∀ w1, Below w.heap.size w w1 → Calls prog 276 #[.pointer (some ⟨L.u, 0, none⟩), .int .u64 a, .int .i64 z] w1 fun e w' => e = .returned (.int .u64 v) ∧ ∃ L', PSt B L w1 L' T w') :
  Calls prog 178 #[.pointer (some ⟨L.b, 0, none⟩), .int .u64 a, .int .i64 z] w fun e w' => e = .returned (.tuple #[.int .u64 v, .bool true]) ∧ ∃ L', PSt B L w L' T w' := by
 have HF := fI w h hn a z ha hz
 rw [hf] at HF
 simp only [show kW L 1 = .iface 83 (.pointer (some ⟨L.u, 0, none⟩)) from rfl, show decide (1 < 6) = true from rfl] at HF
 have HC := hid hC
 have hmt := rQ
 clear h hf hC ha hz
 go_enter func178, ntmps178
 go_wp2_with (first | (go_at_call 220; refine HF.mono ?_; rintro e w1 ⟨rfl, hb1⟩) | (go_at_call 276; refine (HC.out _ hb1).mono ?_; rintro e w2 ⟨rfl, hx⟩; have HX := hid hx; clear hx))
 go_ret2
 obtain ⟨L', hx⟩ := HX.out
 exact ⟨rfl, L', hx.pre hb1⟩
theorem LI {B : Nat} {L : Lay} {S : St} (w : World) (h : PB B L S w) (hn : S.ram.length ≤ 65536) (a z : Int) (ha : 0 ≤ a ∧ a ≤ 18446744073709551615) (hz : -9223372036854775808 ≤ z ∧ z ≤ 9223372036854775807) (v : Int) (hf : fnd S.ram.length a z = 1) (T : St)
  (hC : ∀ w1, Below w.heap.size w w1 → Calls prog 277 #[.pointer (some ⟨L.u, 0, none⟩), .int .u64 a, .int .i64 z, .int .u64 v] w1 fun e w' => e = .returned (.tuple #[]) ∧ ∃ L', PSt B L w1 L' T w') :
  Calls prog 179 #[.pointer (some ⟨L.b, 0, none⟩), .int .u64 a, .int .i64 z, .int .u64 v] w fun e w' => e = .returned (.bool true) ∧ ∃ L', PSt B L w L' T w' := by
 have HF := fI w h hn a z ha hz
 rw [hf] at HF
 simp only [show kW L 1 = .iface 83 (.pointer (some ⟨L.u, 0, none⟩)) from rfl, show decide (1 < 6) = true from rfl] at HF
 have HC := hid hC
 have hmt := qK
 clear h hf hC ha hz
 go_enter func179, ntmps179
 go_wp2_with (first | (go_at_call 220; refine HF.mono ?_; rintro e w1 ⟨rfl, hb1⟩) | (go_at_call 277; refine (HC.out _ hb1).mono ?_; rintro e w2 ⟨rfl, hx⟩; have HX := hid hx; clear hx))
 go_ret
 obtain ⟨L', hx⟩ := HX.out
 exact ⟨rfl, L', hx.pre hb1⟩
theorem PN {B : Nat} {L : Lay} {S : St} (w : World) (h : PB B L S w) (hn : S.ram.length ≤ 65536) (a z : Int) (ha : 0 ≤ a ∧ a ≤ 18446744073709551615) (hz : -9223372036854775808 ≤ z ∧ z ≤ 9223372036854775807) (hf : fnd S.ram.length a z = 2) (v : Int) (T : St)
  (hC : ∀ w1, Below w.heap.size w w1 → Calls prog 272 #[.pointer (some ⟨L.ck, 0, none⟩), .int .u64 a, .int .i64 z] w1 fun e w' => e = .returned (.int .u64 v) ∧ ∃ L', PSt B L w1 L' T w') :
  Calls prog 178 #[.pointer (some ⟨L.b, 0, none⟩), .int .u64 a, .int .i64 z] w fun e w' => e = .returned (.tuple #[.int .u64 v, .bool true]) ∧ ∃ L', PSt B L w L' T w' := by
 have HF := fI w h hn a z ha hz
 rw [hf] at HF
 simp only [show kW L 2 = .iface 82 (.pointer (some ⟨L.ck, 0, none⟩)) from rfl, show decide (2 < 6) = true from rfl] at HF
 have HC := hid hC
 have hmt := jJ
 clear h hf hC ha hz
 go_enter func178, ntmps178
 go_wp2_with (first | (go_at_call 220; refine HF.mono ?_; rintro e w1 ⟨rfl, hb1⟩) | (go_at_call 272; refine (HC.out _ hb1).mono ?_; rintro e w2 ⟨rfl, hx⟩; have HX := hid hx; clear hx))
 go_ret2
 obtain ⟨L', hx⟩ := HX.out
 exact ⟨rfl, L', hx.pre hb1⟩
theorem LJ {B : Nat} {L : Lay} {S : St} (w : World) (h : PB B L S w) (hn : S.ram.length ≤ 65536) (a z : Int) (ha : 0 ≤ a ∧ a ≤ 18446744073709551615) (hz : -9223372036854775808 ≤ z ∧ z ≤ 9223372036854775807) (v : Int) (hf : fnd S.ram.length a z = 2) (T : St)
  (hC : ∀ w1, Below w.heap.size w w1 → Calls prog 273 #[.pointer (some ⟨L.ck, 0, none⟩), .int .u64 a, .int .i64 z, .int .u64 v] w1 fun e w' => e = .returned (.tuple #[]) ∧ ∃ L', PSt B L w1 L' T w') :
  Calls prog 179 #[.pointer (some ⟨L.b, 0, none⟩), .int .u64 a, .int .i64 z, .int .u64 v] w fun e w' => e = .returned (.bool true) ∧ ∃ L', PSt B L w L' T w' := by
 have HF := fI w h hn a z ha hz
 rw [hf] at HF
 simp only [show kW L 2 = .iface 82 (.pointer (some ⟨L.ck, 0, none⟩)) from rfl, show decide (2 < 6) = true from rfl] at HF
 have HC := hid hC
 have hmt := iV
 clear h hf hC ha hz
 go_enter func179, ntmps179
 go_wp2_with (first | (go_at_call 220; refine HF.mono ?_; rintro e w1 ⟨rfl, hb1⟩) | (go_at_call 273; refine (HC.out _ hb1).mono ?_; rintro e w2 ⟨rfl, hx⟩; have HX := hid hx; clear hx))
 go_ret
 obtain ⟨L', hx⟩ := HX.out
 exact ⟨rfl, L', hx.pre hb1⟩
theorem PO {B : Nat} {L : Lay} {S : St} (w : World) (h : PB B L S w) (hn : S.ram.length ≤ 65536) (a z : Int) (ha : 0 ≤ a ∧ a ≤ 18446744073709551615) (hz : -9223372036854775808 ≤ z ∧ z ≤ 9223372036854775807) (hf : fnd S.ram.length a z = 3) (v : Int) (T : St)
  (hC : ∀ w1, Below w.heap.size w w1 → Calls prog 272 #[.pointer (some ⟨L.cm, 0, none⟩), .int .u64 a, .int .i64 z] w1 fun e w' => e = .returned (.int .u64 v) ∧ ∃ L', PSt B L w1 L' T w') :
  Calls prog 178 #[.pointer (some ⟨L.b, 0, none⟩), .int .u64 a, .int .i64 z] w fun e w' => e = .returned (.tuple #[.int .u64 v, .bool true]) ∧ ∃ L', PSt B L w L' T w' := by
 have HF := fI w h hn a z ha hz
 rw [hf] at HF
 simp only [show kW L 3 = .iface 82 (.pointer (some ⟨L.cm, 0, none⟩)) from rfl, show decide (3 < 6) = true from rfl] at HF
 have HC := hid hC
 have hmt := jJ
 clear h hf hC ha hz
 go_enter func178, ntmps178
 go_wp2_with (first | (go_at_call 220; refine HF.mono ?_; rintro e w1 ⟨rfl, hb1⟩) | (go_at_call 272; refine (HC.out _ hb1).mono ?_; rintro e w2 ⟨rfl, hx⟩; have HX := hid hx; clear hx))
 go_ret2
 obtain ⟨L', hx⟩ := HX.out
 exact ⟨rfl, L', hx.pre hb1⟩
theorem LK {B : Nat} {L : Lay} {S : St} (w : World) (h : PB B L S w) (hn : S.ram.length ≤ 65536) (a z : Int) (ha : 0 ≤ a ∧ a ≤ 18446744073709551615) (hz : -9223372036854775808 ≤ z ∧ z ≤ 9223372036854775807) (v : Int) (hf : fnd S.ram.length a z = 3) (T : St)
  (hC : ∀ w1, Below w.heap.size w w1 → Calls prog 273 #[.pointer (some ⟨L.cm, 0, none⟩), .int .u64 a, .int .i64 z, .int .u64 v] w1 fun e w' => e = .returned (.tuple #[]) ∧ ∃ L', PSt B L w1 L' T w') :
  Calls prog 179 #[.pointer (some ⟨L.b, 0, none⟩), .int .u64 a, .int .i64 z, .int .u64 v] w fun e w' => e = .returned (.bool true) ∧ ∃ L', PSt B L w L' T w' := by
 have HF := fI w h hn a z ha hz
 rw [hf] at HF
 simp only [show kW L 3 = .iface 82 (.pointer (some ⟨L.cm, 0, none⟩)) from rfl, show decide (3 < 6) = true from rfl] at HF
 have HC := hid hC
 have hmt := iV
 clear h hf hC ha hz
 go_enter func179, ntmps179
 go_wp2_with (first | (go_at_call 220; refine HF.mono ?_; rintro e w1 ⟨rfl, hb1⟩) | (go_at_call 273; refine (HC.out _ hb1).mono ?_; rintro e w2 ⟨rfl, hx⟩; have HX := hid hx; clear hx))
 go_ret
 obtain ⟨L', hx⟩ := HX.out
 exact ⟨rfl, L', hx.pre hb1⟩
theorem PP {B : Nat} {L : Lay} {S : St} (w : World) (h : PB B L S w) (hn : S.ram.length ≤ 65536) (a z : Int) (ha : 0 ≤ a ∧ a ≤ 18446744073709551615) (hz : -9223372036854775808 ≤ z ∧ z ≤ 9223372036854775807) (hf : fnd S.ram.length a z = 4) (v : Int) (T : St)
  (hC : ∀ w1, Below w.heap.size w w1 → Calls prog 269 #[.pointer (some ⟨L.sw, 0, none⟩), .int .u64 a, .int .i64 z] w1 fun e w' => e = .returned (.int .u64 v) ∧ ∃ L', PSt B L w1 L' T w') :
  Calls prog 178 #[.pointer (some ⟨L.b, 0, none⟩), .int .u64 a, .int .i64 z] w fun e w' => e = .returned (.tuple #[.int .u64 v, .bool true]) ∧ ∃ L', PSt B L w L' T w' := by
 have HF := fI w h hn a z ha hz
 rw [hf] at HF
 simp only [show kW L 4 = .iface 81 (.pointer (some ⟨L.sw, 0, none⟩)) from rfl, show decide (4 < 6) = true from rfl] at HF
 have HC := hid hC
 have hmt := rP
 clear h hf hC ha hz
 go_enter func178, ntmps178
 go_wp2_with (first | (go_at_call 220; refine HF.mono ?_; rintro e w1 ⟨rfl, hb1⟩) | (go_at_call 269; refine (HC.out _ hb1).mono ?_; rintro e w2 ⟨rfl, hx⟩; have HX := hid hx; clear hx))
 go_ret2
 obtain ⟨L', hx⟩ := HX.out
 exact ⟨rfl, L', hx.pre hb1⟩
theorem LL {B : Nat} {L : Lay} {S : St} (w : World) (h : PB B L S w) (hn : S.ram.length ≤ 65536) (a z : Int) (ha : 0 ≤ a ∧ a ≤ 18446744073709551615) (hz : -9223372036854775808 ≤ z ∧ z ≤ 9223372036854775807) (v : Int) (hf : fnd S.ram.length a z = 4) (T : St)
  (hC : ∀ w1, Below w.heap.size w w1 → Calls prog 270 #[.pointer (some ⟨L.sw, 0, none⟩), .int .u64 a, .int .i64 z, .int .u64 v] w1 fun e w' => e = .returned (.tuple #[]) ∧ ∃ L', PSt B L w1 L' T w') :
  Calls prog 179 #[.pointer (some ⟨L.b, 0, none⟩), .int .u64 a, .int .i64 z, .int .u64 v] w fun e w' => e = .returned (.bool true) ∧ ∃ L', PSt B L w L' T w' := by
 have HF := fI w h hn a z ha hz
 rw [hf] at HF
 simp only [show kW L 4 = .iface 81 (.pointer (some ⟨L.sw, 0, none⟩)) from rfl, show decide (4 < 6) = true from rfl] at HF
 have HC := hid hC
 have hmt := qJ
 clear h hf hC ha hz
 go_enter func179, ntmps179
 go_wp2_with (first | (go_at_call 220; refine HF.mono ?_; rintro e w1 ⟨rfl, hb1⟩) | (go_at_call 270; refine (HC.out _ hb1).mono ?_; rintro e w2 ⟨rfl, hx⟩; have HX := hid hx; clear hx))
 go_ret
 obtain ⟨L', hx⟩ := HX.out
 exact ⟨rfl, L', hx.pre hb1⟩
theorem PQ {B : Nat} {L : Lay} {S : St} (w : World) (h : PB B L S w) (hn : S.ram.length ≤ 65536) (a z : Int) (ha : 0 ≤ a ∧ a ≤ 18446744073709551615) (hz : -9223372036854775808 ≤ z ∧ z ≤ 9223372036854775807) (hf : fnd S.ram.length a z = 5) (v : Int) (T : St)
  (hC : ∀ w1, Below w.heap.size w w1 → Calls prog 266 #[.pointer (some ⟨L.pw, 0, none⟩), .int .u64 a, .int .i64 z] w1 fun e w' => e = .returned (.int .u64 v) ∧ ∃ L', PSt B L w1 L' T w') :
  Calls prog 178 #[.pointer (some ⟨L.b, 0, none⟩), .int .u64 a, .int .i64 z] w fun e w' => e = .returned (.tuple #[.int .u64 v, .bool true]) ∧ ∃ L', PSt B L w L' T w' := by
 have HF := fI w h hn a z ha hz
 rw [hf] at HF
 simp only [show kW L 5 = .iface 80 (.pointer (some ⟨L.pw, 0, none⟩)) from rfl, show decide (5 < 6) = true from rfl] at HF
 have HC := hid hC
 have hmt := mY
 clear h hf hC ha hz
 go_enter func178, ntmps178
 go_wp2_with (first | (go_at_call 220; refine HF.mono ?_; rintro e w1 ⟨rfl, hb1⟩) | (go_at_call 266; refine (HC.out _ hb1).mono ?_; rintro e w2 ⟨rfl, hx⟩; have HX := hid hx; clear hx))
 go_ret2
 obtain ⟨L', hx⟩ := HX.out
 exact ⟨rfl, L', hx.pre hb1⟩
theorem LM {B : Nat} {L : Lay} {S : St} (w : World) (h : PB B L S w) (hn : S.ram.length ≤ 65536) (a z : Int) (ha : 0 ≤ a ∧ a ≤ 18446744073709551615) (hz : -9223372036854775808 ≤ z ∧ z ≤ 9223372036854775807) (v : Int) (hf : fnd S.ram.length a z = 5) (T : St)
  (hC : ∀ w1, Below w.heap.size w w1 → Calls prog 267 #[.pointer (some ⟨L.pw, 0, none⟩), .int .u64 a, .int .i64 z, .int .u64 v] w1 fun e w' => e = .returned (.tuple #[]) ∧ ∃ L', PSt B L w1 L' T w') :
  Calls prog 179 #[.pointer (some ⟨L.b, 0, none⟩), .int .u64 a, .int .i64 z, .int .u64 v] w fun e w' => e = .returned (.bool true) ∧ ∃ L', PSt B L w L' T w' := by
 have HF := fI w h hn a z ha hz
 rw [hf] at HF
 simp only [show kW L 5 = .iface 80 (.pointer (some ⟨L.pw, 0, none⟩)) from rfl, show decide (5 < 6) = true from rfl] at HF
 have HC := hid hC
 have hmt := mH
 clear h hf hC ha hz
 go_enter func179, ntmps179
 go_wp2_with (first | (go_at_call 220; refine HF.mono ?_; rintro e w1 ⟨rfl, hb1⟩) | (go_at_call 267; refine (HC.out _ hb1).mono ?_; rintro e w2 ⟨rfl, hx⟩; have HX := hid hx; clear hx))
 go_ret
 obtain ⟨L', hx⟩ := HX.out
 exact ⟨rfl, L', hx.pre hb1⟩
def mS (N base a z : Int) : Int := if z = 8 then N else if a = base then N % 4294967296 else N / 4294967296
def nJ (N base a z v : Int) : Int := if z = 8 then v else if a = base then N / 4294967296 * 4294967296 + v % 4294967296 else v % 4294967296 * 4294967296 + N % 4294967296
theorem jY {base a z : Int} (h : iM base a z = true) : (z = 8 ∧ a = base) ∨ (z = 4 ∧ a = base) ∨ (z = 4 ∧ a = base + 4) := by
 unfold iM at h
 split at h
 ·rename_i h4
  simp only [Bool.or_eq_true, beq_iff_eq] at h
  rcases h with h | h
  ·exact .inr (.inl ⟨h4, h⟩)
  ·exact .inr (.inr ⟨h4, h⟩)
 ·split at h
  ·rename_i h8
   simp only [beq_iff_eq] at h
   exact .inl ⟨h8, h⟩
  ·cases h
theorem lQ (x : BitVec 64) : n64 x = ((x.toNat : Nat) : Int) := rfl
theorem vI {base a z : Int} (h : iM base a z = true) (hb : 0 ≤ base ∧ base ≤ 4294967296) (g : Nat) (x : BitVec 64) (w : World) (c0 : w.cell? ⟨g, 0, none⟩ = some (.int .u64 base)) (c1 : w.cell? ⟨g, 1, none⟩ = some (.int .u64 (n64 x))) :
  Calls prog 272 #[.pointer (some ⟨g, 0, none⟩), .int .u64 a, .int .i64 z] w fun e w' => e = .returned (.int .u64 (mS (n64 x) base a z)) ∧ Below w.heap.size w w' := by
 have hx := x.isLt
 rcases jY h with ⟨rfl, rfl⟩ | ⟨rfl, rfl⟩ | ⟨rfl, rfl⟩
 ·have e : mS (n64 x) a a 8 = ((prt x.toNat 0 8 : Nat) : Int) := by rw [QN _ (by omega)]; rfl
  rw [e]
  have := nI g a x 0 8 (.inl ⟨rfl, rfl⟩) hb w c0 c1
  rw [show a + ((0 : Nat) : Int) = a by omega] at this
  exact this
 ·have e : mS (n64 x) a a 4 = ((prt x.toNat 0 4 : Nat) : Int) := by
   rw [QO]; unfold mS; rw [if_neg (by decide), if_pos rfl, lQ]; rfl
  rw [e]
  have := nI g a x 0 4 (.inr (.inl ⟨rfl, rfl⟩)) hb w c0 c1
  rw [show a + ((0 : Nat) : Int) = a by omega] at this
  exact this
 ·have e : mS (n64 x) base (base + 4) 4 = ((prt x.toNat 4 4 : Nat) : Int) := by
   rw [KD _ (by omega)]; unfold mS; rw [if_neg (by decide), if_neg (by omega), lQ]; rfl
  rw [e]
  exact nI g base x 4 4 (.inr (.inr ⟨rfl, rfl⟩)) hb w c0 c1
theorem sD {base a z : Int} (h : iM base a z = true) (hb : 0 ≤ base ∧ base ≤ 4294967296) (g : Nat) (x y : BitVec 64) (w : World) (hg : w.heap[g]? = some (.cells #[.int .u64 base, .int .u64 (n64 x)] 93 (0, 0))) :
  Calls prog 273 #[.pointer (some ⟨g, 0, none⟩), .int .u64 a, .int .i64 z, .int .u64 (n64 y)] w fun e w' => e = .returned (.tuple #[]) ∧ ∃ w1, Below w.heap.size w w1 ∧ w' = w1.setCell ⟨g, 1, none⟩ (.int .u64 (nJ (n64 x) base a z (n64 y))) := by
 have hx := x.isLt
 have hy := y.isLt
 rcases jY h with ⟨rfl, rfl⟩ | ⟨rfl, rfl⟩ | ⟨rfl, rfl⟩
 ·have e : nJ (n64 x) a a 8 (n64 y) = ((wrt x.toNat 0 8 y.toNat : Nat) : Int) := by rw [SZ _ _ (by omega)]; rfl
  rw [e]
  have := mE g a x y 0 8 (.inl ⟨rfl, rfl⟩) hb w hg
  rw [show a + ((0 : Nat) : Int) = a by omega] at this
  exact this
 ·have e : nJ (n64 x) a a 4 (n64 y) = ((wrt x.toNat 0 4 y.toNat : Nat) : Int) := by
   rw [TA _ _ (by omega)]; unfold nJ; rw [if_neg (by decide), if_pos rfl, lQ, lQ]; omega
  rw [e]
  have := mE g a x y 0 4 (.inr (.inl ⟨rfl, rfl⟩)) hb w hg
  rw [show a + ((0 : Nat) : Int) = a by omega] at this
  exact this
 ·have e : nJ (n64 x) base (base + 4) 4 (n64 y) = ((wrt x.toNat 4 4 y.toNat : Nat) : Int) := by
   rw [MP]; unfold nJ; rw [if_neg (by decide), if_neg (by omega), lQ, lQ]; omega
  rw [e]
  exact mE g base x y 4 4 (.inr (.inr ⟨rfl, rfl⟩)) hb w hg
def St.ld (S : St) (a z : Int) : (Int × Bool) × St := match fnd S.ram.length a z with
 | 0 => ((((tk ((S.ram.drop (a - 2147483648).toNat).take z.toNat) : Nat) : Int), true), S)
 | 1 => (((S.tel (a - 268435456).toNat).1, true), (S.tel (a - 268435456).toNat).2)
 | 2 => ((mS S.time 33603576 a z, true), S)
 | 3 => ((mS S.cmp 33570816 a z, true), S)
 | 4 => ((S.msip, true), S)
 | 5 => ((0, true), S)
 | _ => ((0, false), S)
def St.sto2 (S : St) (a z v : Int) : Bool × St := match fnd S.ram.length a z with
 | 0 => (true, S.put (a - 2147483648).toNat z.toNat v.toNat)
 | 1 => (true, S.tak (a - 268435456).toNat v)
 | 2 => (true, { S with time := nJ S.time 33603576 a z v })
 | 3 => (true, { S with cmp := nJ S.cmp 33570816 a z v })
 | 4 => (true, { S with msip := v % 2 })
 | 5 => (true, S.fin v)
 | _ => (false, S)
theorem GX {n : Nat} {a z : Int} (h : fnd n a z = 1) : mU a z = true := by
 unfold fnd at h; repeat' split at h
 all_goals first | assumption | (exfalso; omega)
theorem GY {n : Nat} {a z : Int} (h : fnd n a z = 2) : iM 33603576 a z = true := by
 unfold fnd at h; repeat' split at h
 all_goals first | assumption | (exfalso; omega)
theorem GZ {n : Nat} {a z : Int} (h : fnd n a z = 3) : iM 33570816 a z = true := by
 unfold fnd at h; repeat' split at h
 all_goals first | assumption | (exfalso; omega)
theorem pY {a z : Int} (h : mU a z = true) : ∃ r : Nat, r < 8 ∧ a = 268435456 + (r : Int) ∧ (a - 268435456).toNat = r := by
 unfold mU at h
 simp only [Bool.and_eq_true, decide_eq_true_eq] at h
 exact ⟨(a - 268435456).toNat, by omega, by omega, rfl⟩
theorem jH (n : Nat) (a z : Int) : fnd n a z = 0 ∨ fnd n a z = 1 ∨ fnd n a z = 2 ∨ fnd n a z = 3 ∨ fnd n a z = 4 ∨ fnd n a z = 5 ∨ fnd n a z = 6 := by
 have := WH n a z; omega
theorem kR {B : Nat} {L : Lay} {S : St} (w : World) (h : PB B L S w) (hn : S.ram.length ≤ 65536) (a z : Int) (ha : 0 ≤ a ∧ a ≤ 18446744073709551615) (hz : -9223372036854775808 ≤ z ∧ z ≤ 9223372036854775807) (hw : StW S) (h64 : S.inp.length ≤ 64) :
  Calls prog 178 #[.pointer (some ⟨L.b, 0, none⟩), .int .u64 a, .int .i64 z] w fun e w' => e = .returned (.tuple #[.int .u64 (S.ld a z).1.1, .bool (S.ld a z).1.2]) ∧ ∃ L', PSt B L w L' (S.ld a z).2 w' := by
 rcases jH S.ram.length a z with hf | hf | hf | hf | hf | hf | hf
 ·obtain ⟨k, s, rfl, rfl, hk, hs, h8⟩ := pW (pU hf)
  have e : S.ld (2147483648 + (k : Int)) s = ((((tk ((S.ram.drop k).take s) : Nat) : Int), true), S) := by
   unfold St.ld; rw [hf]; simp only; rw [show (2147483648 + (k : Int) - 2147483648).toNat = k by omega]; rfl
  rw [e]
  exact (IU w h hw.r hn k s hk hs h8 hf).mono fun e w' ⟨he, hb⟩ => ⟨he, L, .quiet h hb⟩
 ·obtain ⟨r, hr, rfl, hrn⟩ := pY (GX hf)
  have e : S.ld (268435456 + (r : Int)) z = (((S.tel r).1, true), (S.tel r).2) := by unfold St.ld; rw [hf]; simp only; rw [hrn]
  rw [e]
  exact PM w h hn _ z ha hz hf _ _ (fun w1 hb => yZ w1 (h.later hb) hw h64 r hr z)
 ·have e : S.ld a z = ((mS S.time 33603576 a z, true), S) := by simp only [St.ld, hf]
  rw [e]
  obtain ⟨x, hx⟩ := dV (n := S.time) (WalkArith.wf_u64 hw.time)
  refine PN w h hn a z ha hz hf _ _ (fun w1 hb => ?_)
  have h1 := h.later hb
  rw [hx]
  exact (vI (GY hf) (by decide) L.ck x w1 h1.cl.k0 (by rw [← hx]; exact h1.cl.k1)).mono fun e w' ⟨he, hb⟩ => ⟨he, L, .quiet h1 hb⟩
 ·have e : S.ld a z = ((mS S.cmp 33570816 a z, true), S) := by simp only [St.ld, hf]
  rw [e]
  obtain ⟨x, hx⟩ := dV (n := S.cmp) (WalkArith.wf_u64 hw.cmp)
  refine PO w h hn a z ha hz hf _ _ (fun w1 hb => ?_)
  have h1 := h.later hb
  rw [hx]
  exact (vI (GZ hf) (by decide) L.cm x w1 h1.cl.c0 (by rw [← hx]; exact h1.cl.c1)).mono fun e w' ⟨he, hb⟩ => ⟨he, L, .quiet h1 hb⟩
 ·have e : S.ld a z = ((S.msip, true), S) := by simp only [St.ld, hf]
  rw [e]
  exact PP w h hn a z ha hz hf _ _ (fun w1 hb => (xZ w1 (h.later hb) a z hw.msip).mono fun e w' ⟨he, hb2⟩ => ⟨he, L, .quiet (h.later hb) hb2⟩)
 ·have e : S.ld a z = ((0, true), S) := by simp only [St.ld, hf]
  rw [e]
  exact PQ w h hn a z ha hz hf _ _ (fun w1 hb => (CS w1 (h.later hb) a z).mono fun e w' ⟨he, hb2⟩ => ⟨he, L, .quiet (h.later hb) hb2⟩)
 ·have e : S.ld a z = ((0, false), S) := by simp only [St.ld, hf]
  rw [e]
  exact (CX w h hn a z ha hz hf).mono fun e w' ⟨he, hb⟩ => ⟨he, L, .quiet h hb⟩
theorem iO {B : Nat} {L : Lay} {S : St} (w : World) (h : PB B L S w) (hn : S.ram.length ≤ 65536) (a z : Int) (ha : 0 ≤ a ∧ a ≤ 18446744073709551615) (hz : -9223372036854775808 ≤ z ∧ z ≤ 9223372036854775807) (hw : StW S) (y : BitVec 64) :
  Calls prog 179 #[.pointer (some ⟨L.b, 0, none⟩), .int .u64 a, .int .i64 z, .int .u64 (n64 y)] w fun e w' => e = .returned (.bool (S.sto2 a z (n64 y)).1) ∧ ∃ L', PSt B L w L' (S.sto2 a z (n64 y)).2 w' := by
 have hy : 0 ≤ n64 y ∧ n64 y ≤ 18446744073709551615 := ⟨bF y, bM y⟩
 rcases jH S.ram.length a z with hf | hf | hf | hf | hf | hf | hf
 ·obtain ⟨k, s, rfl, rfl, hk, hs, h8⟩ := pW (pU hf)
  have e : S.sto2 (2147483648 + (k : Int)) s (n64 y) = (true, S.put k s y.toNat) := by
   unfold St.sto2; rw [hf]; simp only; rw [show (2147483648 + (k : Int) - 2147483648).toNat = k by omega]; rfl
  rw [e]
  exact (DS y w h hn k s hk hs h8 hf).mono fun e w' ⟨he, hp, hx⟩ => ⟨he, L, .same hp hx⟩
 ·obtain ⟨r, hr, rfl, hrn⟩ := pY (GX hf)
  have e : S.sto2 (268435456 + (r : Int)) z (n64 y) = (true, S.tak r (n64 y)) := by unfold St.sto2; rw [hf]; simp only; rw [hrn]
  rw [e]
  exact LI w h hn _ z ha hz _ hf _ (fun w1 hb => wW w1 (h.later hb) r hr z y)
 ·have e : S.sto2 a z (n64 y) = (true, { S with time := nJ S.time 33603576 a z (n64 y) }) := by simp only [St.sto2, hf]
  rw [e]
  obtain ⟨x, hx⟩ := dV (n := S.time) (WalkArith.wf_u64 hw.time)
  refine LJ w h hn a z ha hz _ hf _ (fun w1 hb => ?_)
  have h1 := h.later hb
  refine (sD (GY hf) (by decide) L.ck x y w1 (by rw [← hx]; exact h1.hk)).mono ?_
  rintro e w' ⟨rfl, w2, hb2, rfl⟩
  refine ⟨rfl, L, ?_⟩
  rw [← hx]
  exact .pre hb2 (.same ((h1.later hb2).set_time _) (fH L _ _ _ _ h1.own_ck))
 ·have e : S.sto2 a z (n64 y) = (true, { S with cmp := nJ S.cmp 33570816 a z (n64 y) }) := by simp only [St.sto2, hf]
  rw [e]
  obtain ⟨x, hx⟩ := dV (n := S.cmp) (WalkArith.wf_u64 hw.cmp)
  refine LK w h hn a z ha hz _ hf _ (fun w1 hb => ?_)
  have h1 := h.later hb
  refine (sD (GZ hf) (by decide) L.cm x y w1 (by rw [← hx]; exact h1.hc)).mono ?_
  rintro e w' ⟨rfl, w2, hb2, rfl⟩
  refine ⟨rfl, L, ?_⟩
  rw [← hx]
  exact .pre hb2 (.same ((h1.later hb2).set_cmp _) (fH L _ _ _ _ h1.own_cm))
 ·have e : S.sto2 a z (n64 y) = (true, { S with msip := n64 y % 2 }) := by simp only [St.sto2, hf]
  rw [e]
  exact LL w h hn a z ha hz _ hf _ (fun w1 hb => (wC w1 (h.later hb) a z _ hy).mono fun e w' ⟨he, hp, hx⟩ => ⟨he, L, .same hp hx⟩)
 ·have e : S.sto2 a z (n64 y) = (true, S.fin (n64 y)) := by simp only [St.sto2, hf]
  rw [e]
  exact LM w h hn a z ha hz _ hf _ (fun w1 hb => (xP w1 (h.later hb) a z _ hy).mono fun e w' ⟨he, hp, hx⟩ => ⟨he, L, .same hp hx⟩)
 ·have e : S.sto2 a z (n64 y) = (false, S) := by simp only [St.sto2, hf]
  rw [e]
  exact (yR w h hn a z _ ha hz hf).mono fun e w' ⟨he, hb⟩ => ⟨he, L, .quiet h hb⟩
end Go.Proofs.YtddlmenfcbjoaaaGreatDoor
