/-
  Words of 32 bits; pick and bit of the reference; Lay of every layout.
-/
import Derived.Test.YtechkhlibdkmpacEq
namespace Go.Proofs.Ytechkhlibdkmpac
set_option linter.unusedVariables false
open Go.ChangeShapes Go.WideShapes Go.ChangeAt Go.RowKit Go.Deep
def n32 (x : BitVec 32) : Int := (x.toNat : Int)
theorem n32_lo (x : BitVec 32) : 0 ≤ n32 x := by unfold n32; omega
theorem n32_hi (x : BitVec 32) : n32 x < 4294967296 := by unfold n32; have := x.isLt; omega
theorem of_n32 (x : BitVec 32) : BitVec.ofInt 32 (n32 x) = x := by
  apply BitVec.eq_of_toNat_eq
  rw [BitVec.toNat_ofInt]
  unfold n32
  have := x.isLt
  omega
theorem wrap_u32 (z : Int) : IntKind.u32.wrap z = z % 4294967296 := by first | rfl | (unfold IntKind.wrap; simp [IntKind.signed, IntKind.bits])
theorem mod32 (z : Int) : z % 4294967296 = n32 (BitVec.ofInt 32 z) := by
  unfold n32
  rw [BitVec.toNat_ofInt]
  omega
theorem ofInt_mod32 (z : Int) : BitVec.ofInt 32 (z % 4294967296) = BitVec.ofInt 32 z := by rw [mod32, of_n32]
theorem and32 (a b : Int) : bits .and .u32 a b = n32 (BitVec.ofInt 32 a &&& BitVec.ofInt 32 b) := by
  show IntKind.u32.wrap ((BitVec.ofInt 32 a &&& BitVec.ofInt 32 b).toNat : Int) = _
  rw [wrap_u32]
  exact Int.emod_eq_of_lt (n32_lo _) (n32_hi _)
theorem or32 (x y : BitVec 32) : bits .or .u32 (n32 x) (n32 y) = n32 (x ||| y) := by
  show IntKind.u32.wrap ((BitVec.ofInt 32 (n32 x) ||| BitVec.ofInt 32 (n32 y)).toNat : Int) = _
  rw [wrap_u32, of_n32, of_n32]
  exact Int.emod_eq_of_lt (n32_lo _) (n32_hi _)
theorem add32 (x y : BitVec 32) : (n32 x + n32 y) % 4294967296 = n32 (x + y) := by
  unfold n32
  rw [BitVec.toNat_add]
  omega
theorem shl32 (x : BitVec 32) (k : Nat) : n32 x * ((2 ^ k : Nat) : Int) % 4294967296 = n32 (x <<< k) := by
  unfold n32
  rw [BitVec.toNat_shiftLeft, Nat.shiftLeft_eq]
  omega
theorem raw32 (a : Int) (m k : Nat) : bits .and .u32 (a % 4294967296) (m : Int) * ((2 ^ k : Nat) : Int) % 4294967296 = n32 ((BitVec.ofInt 32 a &&& BitVec.ofNat 32 m) <<< k) := by
  rw [and32, ofInt_mod32, shl32]
  congr 3
/-- The bits hi down to lo of v, at pt. -/
def pkB (v : Int) (hi lo pt : Nat) : BitVec 32 := (BitVec.ofInt 32 (v / ((2 ^ lo : Nat) : Int)) &&& BitVec.ofNat 32 (2 ^ (hi - lo + 1) - 1)) <<< pt
def pcB (v : Int) (p : Pc) : BitVec 32 := pkB v p.hi.toNat p.lo.toNat p.pt.toNat
def lyB (l : List Pc) (v : Int) : BitVec 32 := l.foldl (fun a p => a ||| pcB v p) 0#32
theorem raw_4_0_7 (v : Int) : bits .and .u32 (v % 4294967296) 31 * 128 % 4294967296 = n32 (pkB v 4 0 7) := by
  have h := raw32 v 31 7
  unfold pkB
  rw [show v / ((2 ^ 0 : Nat) : Int) = v from by simp]
  exact h
theorem raw_4_0_15 (v : Int) : bits .and .u32 (v % 4294967296) 31 * 32768 % 4294967296 = n32 (pkB v 4 0 15) := by
  have h := raw32 v 31 15
  unfold pkB
  rw [show v / ((2 ^ 0 : Nat) : Int) = v from by simp]
  exact h
theorem raw_4_0_20 (v : Int) : bits .and .u32 (v % 4294967296) 31 * 1048576 % 4294967296 = n32 (pkB v 4 0 20) := by
  have h := raw32 v 31 20
  unfold pkB
  rw [show v / ((2 ^ 0 : Nat) : Int) = v from by simp]
  exact h
theorem raw_4_1_8 (v : Int) : bits .and .u32 (v / 2 % 4294967296) 15 * 256 % 4294967296 = n32 (pkB v 4 1 8) := by
  have h := raw32 (v / 2) 15 8
  exact h
theorem raw_5_0_20 (v : Int) : bits .and .u32 (v % 4294967296) 63 * 1048576 % 4294967296 = n32 (pkB v 5 0 20) := by
  have h := raw32 v 63 20
  unfold pkB
  rw [show v / ((2 ^ 0 : Nat) : Int) = v from by simp]
  exact h
theorem raw_10_1_21 (v : Int) : bits .and .u32 (v / 2 % 4294967296) 1023 * 2097152 % 4294967296 = n32 (pkB v 10 1 21) := by
  have h := raw32 (v / 2) 1023 21
  exact h
theorem raw_10_5_25 (v : Int) : bits .and .u32 (v / 32 % 4294967296) 63 * 33554432 % 4294967296 = n32 (pkB v 10 5 25) := by
  have h := raw32 (v / 32) 63 25
  exact h
theorem raw_11_0_20 (v : Int) : bits .and .u32 (v % 4294967296) 4095 * 1048576 % 4294967296 = n32 (pkB v 11 0 20) := by
  have h := raw32 v 4095 20
  unfold pkB
  rw [show v / ((2 ^ 0 : Nat) : Int) = v from by simp]
  exact h
theorem raw_11_5_25 (v : Int) : bits .and .u32 (v / 32 % 4294967296) 127 * 33554432 % 4294967296 = n32 (pkB v 11 5 25) := by
  have h := raw32 (v / 32) 127 25
  exact h
theorem raw_11_11_7 (v : Int) : bits .and .u32 (v / 2048 % 4294967296) 1 * 128 % 4294967296 = n32 (pkB v 11 11 7) := by
  have h := raw32 (v / 2048) 1 7
  exact h
theorem raw_11_11_20 (v : Int) : bits .and .u32 (v / 2048 % 4294967296) 1 * 1048576 % 4294967296 = n32 (pkB v 11 11 20) := by
  have h := raw32 (v / 2048) 1 20
  exact h
theorem raw_12_12_31 (v : Int) : bits .and .u32 (v / 4096 % 4294967296) 1 * 2147483648 % 4294967296 = n32 (pkB v 12 12 31) := by
  have h := raw32 (v / 4096) 1 31
  exact h
theorem raw_19_12_12 (v : Int) : bits .and .u32 (v / 4096 % 4294967296) 255 * 4096 % 4294967296 = n32 (pkB v 19 12 12) := by
  have h := raw32 (v / 4096) 255 12
  exact h
theorem raw_20_20_31 (v : Int) : bits .and .u32 (v / 1048576 % 4294967296) 1 * 2147483648 % 4294967296 = n32 (pkB v 20 20 31) := by
  have h := raw32 (v / 1048576) 1 31
  exact h
theorem raw_31_12_12 (v : Int) : bits .and .u32 (v / 4096 % 4294967296) 1048575 * 4096 % 4294967296 = n32 (pkB v 31 12 12) := by
  have h := raw32 (v / 4096) 1048575 12
  exact h
theorem pick_20_20_31 (v : Int) (w : World) (hv : I64 v) : Calls Try.prog 22 #[.int .i64 v, .int .i64 20, .int .i64 20, .int .i64 31] w fun e w' => e = .returned (.int .u32 (n32 (pkB v 20 20 31))) ∧ w' = w := by
  unfold I64 at hv
  go_enter Try.func22, Try.ntmps22
  go_wp2
  go_ret
  exact ⟨by rw [← raw_20_20_31]; rfl, rfl⟩
theorem pick_10_1_21 (v : Int) (w : World) (hv : I64 v) : Calls Try.prog 22 #[.int .i64 v, .int .i64 10, .int .i64 1, .int .i64 21] w fun e w' => e = .returned (.int .u32 (n32 (pkB v 10 1 21))) ∧ w' = w := by
  unfold I64 at hv
  go_enter Try.func22, Try.ntmps22
  go_wp2
  go_ret
  exact ⟨by rw [← raw_10_1_21]; rfl, rfl⟩
theorem pick_11_11_20 (v : Int) (w : World) (hv : I64 v) : Calls Try.prog 22 #[.int .i64 v, .int .i64 11, .int .i64 11, .int .i64 20] w fun e w' => e = .returned (.int .u32 (n32 (pkB v 11 11 20))) ∧ w' = w := by
  unfold I64 at hv
  go_enter Try.func22, Try.ntmps22
  go_wp2
  go_ret
  exact ⟨by rw [← raw_11_11_20]; rfl, rfl⟩
theorem pick_19_12_12 (v : Int) (w : World) (hv : I64 v) : Calls Try.prog 22 #[.int .i64 v, .int .i64 19, .int .i64 12, .int .i64 12] w fun e w' => e = .returned (.int .u32 (n32 (pkB v 19 12 12))) ∧ w' = w := by
  unfold I64 at hv
  go_enter Try.func22, Try.ntmps22
  go_wp2
  go_ret
  exact ⟨by rw [← raw_19_12_12]; rfl, rfl⟩
theorem pick_12_12_31 (v : Int) (w : World) (hv : I64 v) : Calls Try.prog 22 #[.int .i64 v, .int .i64 12, .int .i64 12, .int .i64 31] w fun e w' => e = .returned (.int .u32 (n32 (pkB v 12 12 31))) ∧ w' = w := by
  unfold I64 at hv
  go_enter Try.func22, Try.ntmps22
  go_wp2
  go_ret
  exact ⟨by rw [← raw_12_12_31]; rfl, rfl⟩
theorem pick_10_5_25 (v : Int) (w : World) (hv : I64 v) : Calls Try.prog 22 #[.int .i64 v, .int .i64 10, .int .i64 5, .int .i64 25] w fun e w' => e = .returned (.int .u32 (n32 (pkB v 10 5 25))) ∧ w' = w := by
  unfold I64 at hv
  go_enter Try.func22, Try.ntmps22
  go_wp2
  go_ret
  exact ⟨by rw [← raw_10_5_25]; rfl, rfl⟩
theorem pick_4_1_8 (v : Int) (w : World) (hv : I64 v) : Calls Try.prog 22 #[.int .i64 v, .int .i64 4, .int .i64 1, .int .i64 8] w fun e w' => e = .returned (.int .u32 (n32 (pkB v 4 1 8))) ∧ w' = w := by
  unfold I64 at hv
  go_enter Try.func22, Try.ntmps22
  go_wp2
  go_ret
  exact ⟨by rw [← raw_4_1_8]; rfl, rfl⟩
theorem pick_11_11_7 (v : Int) (w : World) (hv : I64 v) : Calls Try.prog 22 #[.int .i64 v, .int .i64 11, .int .i64 11, .int .i64 7] w fun e w' => e = .returned (.int .u32 (n32 (pkB v 11 11 7))) ∧ w' = w := by
  unfold I64 at hv
  go_enter Try.func22, Try.ntmps22
  go_wp2
  go_ret
  exact ⟨by rw [← raw_11_11_7]; rfl, rfl⟩
theorem pick_11_5_25 (v : Int) (w : World) (hv : I64 v) : Calls Try.prog 22 #[.int .i64 v, .int .i64 11, .int .i64 5, .int .i64 25] w fun e w' => e = .returned (.int .u32 (n32 (pkB v 11 5 25))) ∧ w' = w := by
  unfold I64 at hv
  go_enter Try.func22, Try.ntmps22
  go_wp2
  go_ret
  exact ⟨by rw [← raw_11_5_25]; rfl, rfl⟩
theorem pick_4_0_7 (v : Int) (w : World) (hv : I64 v) : Calls Try.prog 22 #[.int .i64 v, .int .i64 4, .int .i64 0, .int .i64 7] w fun e w' => e = .returned (.int .u32 (n32 (pkB v 4 0 7))) ∧ w' = w := by
  unfold I64 at hv
  go_enter Try.func22, Try.ntmps22
  go_wp2
  go_ret
  exact ⟨by rw [← raw_4_0_7]; rfl, rfl⟩
theorem pick_5_0_20 (v : Int) (w : World) (hv : I64 v) : Calls Try.prog 22 #[.int .i64 v, .int .i64 5, .int .i64 0, .int .i64 20] w fun e w' => e = .returned (.int .u32 (n32 (pkB v 5 0 20))) ∧ w' = w := by
  unfold I64 at hv
  go_enter Try.func22, Try.ntmps22
  go_wp2
  go_ret
  exact ⟨by rw [← raw_5_0_20]; rfl, rfl⟩
theorem pick_4_0_20 (v : Int) (w : World) (hv : I64 v) : Calls Try.prog 22 #[.int .i64 v, .int .i64 4, .int .i64 0, .int .i64 20] w fun e w' => e = .returned (.int .u32 (n32 (pkB v 4 0 20))) ∧ w' = w := by
  unfold I64 at hv
  go_enter Try.func22, Try.ntmps22
  go_wp2
  go_ret
  exact ⟨by rw [← raw_4_0_20]; rfl, rfl⟩
theorem pick_11_0_20 (v : Int) (w : World) (hv : I64 v) : Calls Try.prog 22 #[.int .i64 v, .int .i64 11, .int .i64 0, .int .i64 20] w fun e w' => e = .returned (.int .u32 (n32 (pkB v 11 0 20))) ∧ w' = w := by
  unfold I64 at hv
  go_enter Try.func22, Try.ntmps22
  go_wp2
  go_ret
  exact ⟨by rw [← raw_11_0_20]; rfl, rfl⟩
theorem bit_c (b : Bool) (k : Nat) (hk : k = 25 ∨ k = 26) (w : World) : Calls Try.prog 23 #[.bool b, .int .i64 k] w fun e w' => e = .returned (.int .u32 (n32 (if b then 1#32 <<< k else 0#32))) ∧ w' = w := by
  rcases hk with rfl | rfl
  · rw [show ((25 : Nat) : Int) = (25 : Int) from rfl]
    cases b
    · go_enter Try.func23, Try.ntmps23
      go_wp2
      go_ret
      exact ⟨rfl, rfl⟩
    · go_enter Try.func23, Try.ntmps23
      go_wp2
      go_ret
      exact ⟨rfl, rfl⟩
  · rw [show ((26 : Nat) : Int) = (26 : Int) from rfl]
    cases b
    · go_enter Try.func23, Try.ntmps23
      go_wp2
      go_ret
      exact ⟨rfl, rfl⟩
    · go_enter Try.func23, Try.ntmps23
      go_wp2
      go_ret
      exact ⟨rfl, rfl⟩
theorem lay_nil (n : Int) (w : World) : Calls Try.prog 33 #[.slice none 0 0, .int .i64 n] w fun e w' => e = .returned (.int .u32 (n32 (lyB [] n))) ∧ Below w.heap.size w w' := by
  go_enter Try.func33, Try.ntmps33
  go_wp2
  go_loopw [5, 14] (fun a i wr => a = .int .u32 0 ∧ i = .int .i64 0 ∧ wr = w) (fun _ i _ => 0)
  case atStart => exact ⟨rfl, rfl, rfl⟩
  case round =>
    obtain ⟨rfl, rfl, hwr⟩ := hrel
    subst hwr
    go_wp2
    go_ret
    exact ⟨rfl, Below.refl _ _⟩
set_option maxRecDepth 100000 in
set_option maxHeartbeats 2000000 in
theorem lay_rd (n : Int) (w : World) (g : Nat) (hn : I64 n) (hr : w.heap[g]? = some (.cells #[.int .u8 4, .int .u8 0, .int .u8 7] 75 (0, 0))) : Calls Try.prog 33 #[.slice (some ⟨g, 0, none⟩) 1 1, .int .i64 n] w fun e w' => e = .returned (.int .u32 (n32 (lyB [⟨4, 0, 7⟩] n))) ∧ Below w.heap.size w w' := by
  unfold I64 at hn
  have HC : Hid (∀ w', Below w.heap.size w w' → w'.heap[g]? = some (.cells #[.int .u8 4, .int .u8 0, .int .u8 7] 75 (0, 0))) := fun w' hb => (hb.block _ (Array.getElem?_eq_some_iff.1 hr).1).trans hr
  obtain ⟨ac, hac⟩ : ∃ ac : Nat → BitVec 32, ac = fun k => ([0#32, (0#32 ||| pkB n 4 0 7)] : List (BitVec 32)).getD k 0#32 := ⟨_, rfl⟩
  have A0 : Hid (ac 0 = 0#32) := by rw [hac]; rfl
  have A1 : Hid (ac 1 = ac 0 ||| pkB n 4 0 7) := by rw [hac]; rfl
  have AF : Hid (lyB [⟨4, 0, 7⟩] n = ac 1) := by rw [hac]; rfl
  clear hac hr
  go_enter Try.func33, Try.ntmps33
  go_wp2
  go_loopw [5, 14] (fun a i wr => ∃ k : Nat, k ≤ 1 ∧ i = .int .i64 k ∧ a = .int .u32 (n32 (ac k)) ∧ Hid (Below w.heap.size w wr)) (fun _ i _ => 1 - (intOf i).toNat)
  case atStart => exact ⟨0, by omega, rfl, by rw [A0.out]; rfl, Below.refl _ _⟩
  case round =>
    obtain ⟨k, hk, rfl, rfl, hb⟩ := hrel
    have HR := HC.out wr hb.out
    have lo0 := n32_lo (ac k)
    have hi0 := n32_hi (ac k)
    have d0 : wr.cell? ⟨g, 0, none⟩ = some (.int .u8 4) := cell_of_row wr g 0 _ _ _ HR
    have d1 : wr.cell? ⟨g, 1, none⟩ = some (.int .u8 0) := cell_of_row wr g 1 _ _ _ HR
    have d2 : wr.cell? ⟨g, 2, none⟩ = some (.int .u8 7) := cell_of_row wr g 2 _ _ _ HR
    clear HR
    obtain rfl | rfl : k = 0 ∨ k = 1 := by omega
    · rw [show ((0 : Nat) : Int) = (0 : Int) from rfl]
      generalize hz : n32 (ac 0) = z at lo0 hi0 ⊢
      have HZ : Hid (n32 (ac 0) = z) := hz
      clear hz
      go_wp2
      go_region
      go_wp2
      go_roundw
      · exact ⟨1, by omega, rfl, by rw [A1.out, ← or32, HZ.out, ← raw_4_0_7], Below.drew (hb.out.trans ((below_al wr _).mono hb.out.size))⟩
      · simp only [intOf]; omega
    · rw [show ((1 : Nat) : Int) = (1 : Int) from rfl]
      go_wp2
      go_ret
      exact ⟨by rw [AF.out]; rfl, hb.out⟩
set_option maxRecDepth 100000 in
set_option maxHeartbeats 2000000 in
theorem lay_r1 (n : Int) (w : World) (g : Nat) (hn : I64 n) (hr : w.heap[g]? = some (.cells #[.int .u8 4, .int .u8 0, .int .u8 15] 75 (0, 0))) : Calls Try.prog 33 #[.slice (some ⟨g, 0, none⟩) 1 1, .int .i64 n] w fun e w' => e = .returned (.int .u32 (n32 (lyB [⟨4, 0, 15⟩] n))) ∧ Below w.heap.size w w' := by
  unfold I64 at hn
  have HC : Hid (∀ w', Below w.heap.size w w' → w'.heap[g]? = some (.cells #[.int .u8 4, .int .u8 0, .int .u8 15] 75 (0, 0))) := fun w' hb => (hb.block _ (Array.getElem?_eq_some_iff.1 hr).1).trans hr
  obtain ⟨ac, hac⟩ : ∃ ac : Nat → BitVec 32, ac = fun k => ([0#32, (0#32 ||| pkB n 4 0 15)] : List (BitVec 32)).getD k 0#32 := ⟨_, rfl⟩
  have A0 : Hid (ac 0 = 0#32) := by rw [hac]; rfl
  have A1 : Hid (ac 1 = ac 0 ||| pkB n 4 0 15) := by rw [hac]; rfl
  have AF : Hid (lyB [⟨4, 0, 15⟩] n = ac 1) := by rw [hac]; rfl
  clear hac hr
  go_enter Try.func33, Try.ntmps33
  go_wp2
  go_loopw [5, 14] (fun a i wr => ∃ k : Nat, k ≤ 1 ∧ i = .int .i64 k ∧ a = .int .u32 (n32 (ac k)) ∧ Hid (Below w.heap.size w wr)) (fun _ i _ => 1 - (intOf i).toNat)
  case atStart => exact ⟨0, by omega, rfl, by rw [A0.out]; rfl, Below.refl _ _⟩
  case round =>
    obtain ⟨k, hk, rfl, rfl, hb⟩ := hrel
    have HR := HC.out wr hb.out
    have lo0 := n32_lo (ac k)
    have hi0 := n32_hi (ac k)
    have d0 : wr.cell? ⟨g, 0, none⟩ = some (.int .u8 4) := cell_of_row wr g 0 _ _ _ HR
    have d1 : wr.cell? ⟨g, 1, none⟩ = some (.int .u8 0) := cell_of_row wr g 1 _ _ _ HR
    have d2 : wr.cell? ⟨g, 2, none⟩ = some (.int .u8 15) := cell_of_row wr g 2 _ _ _ HR
    clear HR
    obtain rfl | rfl : k = 0 ∨ k = 1 := by omega
    · rw [show ((0 : Nat) : Int) = (0 : Int) from rfl]
      generalize hz : n32 (ac 0) = z at lo0 hi0 ⊢
      have HZ : Hid (n32 (ac 0) = z) := hz
      clear hz
      go_wp2
      go_region
      go_wp2
      go_roundw
      · exact ⟨1, by omega, rfl, by rw [A1.out, ← or32, HZ.out, ← raw_4_0_15], Below.drew (hb.out.trans ((below_al wr _).mono hb.out.size))⟩
      · simp only [intOf]; omega
    · rw [show ((1 : Nat) : Int) = (1 : Int) from rfl]
      go_wp2
      go_ret
      exact ⟨by rw [AF.out]; rfl, hb.out⟩
set_option maxRecDepth 100000 in
set_option maxHeartbeats 2000000 in
theorem lay_r2 (n : Int) (w : World) (g : Nat) (hn : I64 n) (hr : w.heap[g]? = some (.cells #[.int .u8 4, .int .u8 0, .int .u8 20] 75 (0, 0))) : Calls Try.prog 33 #[.slice (some ⟨g, 0, none⟩) 1 1, .int .i64 n] w fun e w' => e = .returned (.int .u32 (n32 (lyB [⟨4, 0, 20⟩] n))) ∧ Below w.heap.size w w' := by
  unfold I64 at hn
  have HC : Hid (∀ w', Below w.heap.size w w' → w'.heap[g]? = some (.cells #[.int .u8 4, .int .u8 0, .int .u8 20] 75 (0, 0))) := fun w' hb => (hb.block _ (Array.getElem?_eq_some_iff.1 hr).1).trans hr
  obtain ⟨ac, hac⟩ : ∃ ac : Nat → BitVec 32, ac = fun k => ([0#32, (0#32 ||| pkB n 4 0 20)] : List (BitVec 32)).getD k 0#32 := ⟨_, rfl⟩
  have A0 : Hid (ac 0 = 0#32) := by rw [hac]; rfl
  have A1 : Hid (ac 1 = ac 0 ||| pkB n 4 0 20) := by rw [hac]; rfl
  have AF : Hid (lyB [⟨4, 0, 20⟩] n = ac 1) := by rw [hac]; rfl
  clear hac hr
  go_enter Try.func33, Try.ntmps33
  go_wp2
  go_loopw [5, 14] (fun a i wr => ∃ k : Nat, k ≤ 1 ∧ i = .int .i64 k ∧ a = .int .u32 (n32 (ac k)) ∧ Hid (Below w.heap.size w wr)) (fun _ i _ => 1 - (intOf i).toNat)
  case atStart => exact ⟨0, by omega, rfl, by rw [A0.out]; rfl, Below.refl _ _⟩
  case round =>
    obtain ⟨k, hk, rfl, rfl, hb⟩ := hrel
    have HR := HC.out wr hb.out
    have lo0 := n32_lo (ac k)
    have hi0 := n32_hi (ac k)
    have d0 : wr.cell? ⟨g, 0, none⟩ = some (.int .u8 4) := cell_of_row wr g 0 _ _ _ HR
    have d1 : wr.cell? ⟨g, 1, none⟩ = some (.int .u8 0) := cell_of_row wr g 1 _ _ _ HR
    have d2 : wr.cell? ⟨g, 2, none⟩ = some (.int .u8 20) := cell_of_row wr g 2 _ _ _ HR
    clear HR
    obtain rfl | rfl : k = 0 ∨ k = 1 := by omega
    · rw [show ((0 : Nat) : Int) = (0 : Int) from rfl]
      generalize hz : n32 (ac 0) = z at lo0 hi0 ⊢
      have HZ : Hid (n32 (ac 0) = z) := hz
      clear hz
      go_wp2
      go_region
      go_wp2
      go_roundw
      · exact ⟨1, by omega, rfl, by rw [A1.out, ← or32, HZ.out, ← raw_4_0_20], Below.drew (hb.out.trans ((below_al wr _).mono hb.out.size))⟩
      · simp only [intOf]; omega
    · rw [show ((1 : Nat) : Int) = (1 : Int) from rfl]
      go_wp2
      go_ret
      exact ⟨by rw [AF.out]; rfl, hb.out⟩
set_option maxRecDepth 100000 in
set_option maxHeartbeats 2000000 in
theorem lay_U (n : Int) (w : World) (g : Nat) (hn : I64 n) (hr : w.heap[g]? = some (.cells #[.int .u8 31, .int .u8 12, .int .u8 12] 75 (0, 0))) : Calls Try.prog 33 #[.slice (some ⟨g, 0, none⟩) 1 1, .int .i64 n] w fun e w' => e = .returned (.int .u32 (n32 (lyB [⟨31, 12, 12⟩] n))) ∧ Below w.heap.size w w' := by
  unfold I64 at hn
  have HC : Hid (∀ w', Below w.heap.size w w' → w'.heap[g]? = some (.cells #[.int .u8 31, .int .u8 12, .int .u8 12] 75 (0, 0))) := fun w' hb => (hb.block _ (Array.getElem?_eq_some_iff.1 hr).1).trans hr
  obtain ⟨ac, hac⟩ : ∃ ac : Nat → BitVec 32, ac = fun k => ([0#32, (0#32 ||| pkB n 31 12 12)] : List (BitVec 32)).getD k 0#32 := ⟨_, rfl⟩
  have A0 : Hid (ac 0 = 0#32) := by rw [hac]; rfl
  have A1 : Hid (ac 1 = ac 0 ||| pkB n 31 12 12) := by rw [hac]; rfl
  have AF : Hid (lyB [⟨31, 12, 12⟩] n = ac 1) := by rw [hac]; rfl
  clear hac hr
  go_enter Try.func33, Try.ntmps33
  go_wp2
  go_loopw [5, 14] (fun a i wr => ∃ k : Nat, k ≤ 1 ∧ i = .int .i64 k ∧ a = .int .u32 (n32 (ac k)) ∧ Hid (Below w.heap.size w wr)) (fun _ i _ => 1 - (intOf i).toNat)
  case atStart => exact ⟨0, by omega, rfl, by rw [A0.out]; rfl, Below.refl _ _⟩
  case round =>
    obtain ⟨k, hk, rfl, rfl, hb⟩ := hrel
    have HR := HC.out wr hb.out
    have lo0 := n32_lo (ac k)
    have hi0 := n32_hi (ac k)
    have d0 : wr.cell? ⟨g, 0, none⟩ = some (.int .u8 31) := cell_of_row wr g 0 _ _ _ HR
    have d1 : wr.cell? ⟨g, 1, none⟩ = some (.int .u8 12) := cell_of_row wr g 1 _ _ _ HR
    have d2 : wr.cell? ⟨g, 2, none⟩ = some (.int .u8 12) := cell_of_row wr g 2 _ _ _ HR
    clear HR
    obtain rfl | rfl : k = 0 ∨ k = 1 := by omega
    · rw [show ((0 : Nat) : Int) = (0 : Int) from rfl]
      generalize hz : n32 (ac 0) = z at lo0 hi0 ⊢
      have HZ : Hid (n32 (ac 0) = z) := hz
      clear hz
      go_wp2
      go_region
      go_wp2
      go_roundw
      · exact ⟨1, by omega, rfl, by rw [A1.out, ← or32, HZ.out, ← raw_31_12_12], Below.drew (hb.out.trans ((below_al wr _).mono hb.out.size))⟩
      · simp only [intOf]; omega
    · rw [show ((1 : Nat) : Int) = (1 : Int) from rfl]
      go_wp2
      go_ret
      exact ⟨by rw [AF.out]; rfl, hb.out⟩
set_option maxRecDepth 100000 in
set_option maxHeartbeats 2000000 in
theorem lay_J (n : Int) (w : World) (g : Nat) (hn : I64 n) (hr : w.heap[g]? = some (.cells #[.int .u8 20, .int .u8 20, .int .u8 31, .int .u8 19, .int .u8 12, .int .u8 12, .int .u8 11, .int .u8 11, .int .u8 20, .int .u8 10, .int .u8 1, .int .u8 21] 75 (0, 0))) : Calls Try.prog 33 #[.slice (some ⟨g, 0, none⟩) 4 4, .int .i64 n] w fun e w' => e = .returned (.int .u32 (n32 (lyB [⟨20, 20, 31⟩, ⟨19, 12, 12⟩, ⟨11, 11, 20⟩, ⟨10, 1, 21⟩] n))) ∧ Below w.heap.size w w' := by
  unfold I64 at hn
  have HC : Hid (∀ w', Below w.heap.size w w' → w'.heap[g]? = some (.cells #[.int .u8 20, .int .u8 20, .int .u8 31, .int .u8 19, .int .u8 12, .int .u8 12, .int .u8 11, .int .u8 11, .int .u8 20, .int .u8 10, .int .u8 1, .int .u8 21] 75 (0, 0))) := fun w' hb => (hb.block _ (Array.getElem?_eq_some_iff.1 hr).1).trans hr
  obtain ⟨ac, hac⟩ : ∃ ac : Nat → BitVec 32, ac = fun k => ([0#32, (0#32 ||| pkB n 20 20 31), ((0#32 ||| pkB n 20 20 31) ||| pkB n 19 12 12), (((0#32 ||| pkB n 20 20 31) ||| pkB n 19 12 12) ||| pkB n 11 11 20), ((((0#32 ||| pkB n 20 20 31) ||| pkB n 19 12 12) ||| pkB n 11 11 20) ||| pkB n 10 1 21)] : List (BitVec 32)).getD k 0#32 := ⟨_, rfl⟩
  have A0 : Hid (ac 0 = 0#32) := by rw [hac]; rfl
  have A1 : Hid (ac 1 = ac 0 ||| pkB n 20 20 31) := by rw [hac]; rfl
  have A2 : Hid (ac 2 = ac 1 ||| pkB n 19 12 12) := by rw [hac]; rfl
  have A3 : Hid (ac 3 = ac 2 ||| pkB n 11 11 20) := by rw [hac]; rfl
  have A4 : Hid (ac 4 = ac 3 ||| pkB n 10 1 21) := by rw [hac]; rfl
  have AF : Hid (lyB [⟨20, 20, 31⟩, ⟨19, 12, 12⟩, ⟨11, 11, 20⟩, ⟨10, 1, 21⟩] n = ac 4) := by rw [hac]; rfl
  clear hac hr
  go_enter Try.func33, Try.ntmps33
  go_wp2
  go_loopw [5, 14] (fun a i wr => ∃ k : Nat, k ≤ 4 ∧ i = .int .i64 k ∧ a = .int .u32 (n32 (ac k)) ∧ Hid (Below w.heap.size w wr)) (fun _ i _ => 4 - (intOf i).toNat)
  case atStart => exact ⟨0, by omega, rfl, by rw [A0.out]; rfl, Below.refl _ _⟩
  case round =>
    obtain ⟨k, hk, rfl, rfl, hb⟩ := hrel
    have HR := HC.out wr hb.out
    have lo0 := n32_lo (ac k)
    have hi0 := n32_hi (ac k)
    have d0 : wr.cell? ⟨g, 0, none⟩ = some (.int .u8 20) := cell_of_row wr g 0 _ _ _ HR
    have d1 : wr.cell? ⟨g, 1, none⟩ = some (.int .u8 20) := cell_of_row wr g 1 _ _ _ HR
    have d2 : wr.cell? ⟨g, 2, none⟩ = some (.int .u8 31) := cell_of_row wr g 2 _ _ _ HR
    have d3 : wr.cell? ⟨g, 3, none⟩ = some (.int .u8 19) := cell_of_row wr g 3 _ _ _ HR
    have d4 : wr.cell? ⟨g, 4, none⟩ = some (.int .u8 12) := cell_of_row wr g 4 _ _ _ HR
    have d5 : wr.cell? ⟨g, 5, none⟩ = some (.int .u8 12) := cell_of_row wr g 5 _ _ _ HR
    have d6 : wr.cell? ⟨g, 6, none⟩ = some (.int .u8 11) := cell_of_row wr g 6 _ _ _ HR
    have d7 : wr.cell? ⟨g, 7, none⟩ = some (.int .u8 11) := cell_of_row wr g 7 _ _ _ HR
    have d8 : wr.cell? ⟨g, 8, none⟩ = some (.int .u8 20) := cell_of_row wr g 8 _ _ _ HR
    have d9 : wr.cell? ⟨g, 9, none⟩ = some (.int .u8 10) := cell_of_row wr g 9 _ _ _ HR
    have d10 : wr.cell? ⟨g, 10, none⟩ = some (.int .u8 1) := cell_of_row wr g 10 _ _ _ HR
    have d11 : wr.cell? ⟨g, 11, none⟩ = some (.int .u8 21) := cell_of_row wr g 11 _ _ _ HR
    clear HR
    obtain rfl | rfl | rfl | rfl | rfl : k = 0 ∨ k = 1 ∨ k = 2 ∨ k = 3 ∨ k = 4 := by omega
    · rw [show ((0 : Nat) : Int) = (0 : Int) from rfl]
      generalize hz : n32 (ac 0) = z at lo0 hi0 ⊢
      have HZ : Hid (n32 (ac 0) = z) := hz
      clear hz
      go_wp2
      go_region
      go_wp2
      go_roundw
      · exact ⟨1, by omega, rfl, by rw [A1.out, ← or32, HZ.out, ← raw_20_20_31], Below.drew (hb.out.trans ((below_al wr _).mono hb.out.size))⟩
      · simp only [intOf]; omega
    · rw [show ((1 : Nat) : Int) = (1 : Int) from rfl]
      generalize hz : n32 (ac 1) = z at lo0 hi0 ⊢
      have HZ : Hid (n32 (ac 1) = z) := hz
      clear hz
      go_wp2
      go_region
      go_wp2
      go_roundw
      · exact ⟨2, by omega, rfl, by rw [A2.out, ← or32, HZ.out, ← raw_19_12_12], Below.drew (hb.out.trans ((below_al wr _).mono hb.out.size))⟩
      · simp only [intOf]; omega
    · rw [show ((2 : Nat) : Int) = (2 : Int) from rfl]
      generalize hz : n32 (ac 2) = z at lo0 hi0 ⊢
      have HZ : Hid (n32 (ac 2) = z) := hz
      clear hz
      go_wp2
      go_region
      go_wp2
      go_roundw
      · exact ⟨3, by omega, rfl, by rw [A3.out, ← or32, HZ.out, ← raw_11_11_20], Below.drew (hb.out.trans ((below_al wr _).mono hb.out.size))⟩
      · simp only [intOf]; omega
    · rw [show ((3 : Nat) : Int) = (3 : Int) from rfl]
      generalize hz : n32 (ac 3) = z at lo0 hi0 ⊢
      have HZ : Hid (n32 (ac 3) = z) := hz
      clear hz
      go_wp2
      go_region
      go_wp2
      go_roundw
      · exact ⟨4, by omega, rfl, by rw [A4.out, ← or32, HZ.out, ← raw_10_1_21], Below.drew (hb.out.trans ((below_al wr _).mono hb.out.size))⟩
      · simp only [intOf]; omega
    · rw [show ((4 : Nat) : Int) = (4 : Int) from rfl]
      go_wp2
      go_ret
      exact ⟨by rw [AF.out]; rfl, hb.out⟩
set_option maxRecDepth 100000 in
set_option maxHeartbeats 2000000 in
theorem lay_I (n : Int) (w : World) (g : Nat) (hn : I64 n) (hr : w.heap[g]? = some (.cells #[.int .u8 11, .int .u8 0, .int .u8 20] 75 (0, 0))) : Calls Try.prog 33 #[.slice (some ⟨g, 0, none⟩) 1 1, .int .i64 n] w fun e w' => e = .returned (.int .u32 (n32 (lyB [⟨11, 0, 20⟩] n))) ∧ Below w.heap.size w w' := by
  unfold I64 at hn
  have HC : Hid (∀ w', Below w.heap.size w w' → w'.heap[g]? = some (.cells #[.int .u8 11, .int .u8 0, .int .u8 20] 75 (0, 0))) := fun w' hb => (hb.block _ (Array.getElem?_eq_some_iff.1 hr).1).trans hr
  obtain ⟨ac, hac⟩ : ∃ ac : Nat → BitVec 32, ac = fun k => ([0#32, (0#32 ||| pkB n 11 0 20)] : List (BitVec 32)).getD k 0#32 := ⟨_, rfl⟩
  have A0 : Hid (ac 0 = 0#32) := by rw [hac]; rfl
  have A1 : Hid (ac 1 = ac 0 ||| pkB n 11 0 20) := by rw [hac]; rfl
  have AF : Hid (lyB [⟨11, 0, 20⟩] n = ac 1) := by rw [hac]; rfl
  clear hac hr
  go_enter Try.func33, Try.ntmps33
  go_wp2
  go_loopw [5, 14] (fun a i wr => ∃ k : Nat, k ≤ 1 ∧ i = .int .i64 k ∧ a = .int .u32 (n32 (ac k)) ∧ Hid (Below w.heap.size w wr)) (fun _ i _ => 1 - (intOf i).toNat)
  case atStart => exact ⟨0, by omega, rfl, by rw [A0.out]; rfl, Below.refl _ _⟩
  case round =>
    obtain ⟨k, hk, rfl, rfl, hb⟩ := hrel
    have HR := HC.out wr hb.out
    have lo0 := n32_lo (ac k)
    have hi0 := n32_hi (ac k)
    have d0 : wr.cell? ⟨g, 0, none⟩ = some (.int .u8 11) := cell_of_row wr g 0 _ _ _ HR
    have d1 : wr.cell? ⟨g, 1, none⟩ = some (.int .u8 0) := cell_of_row wr g 1 _ _ _ HR
    have d2 : wr.cell? ⟨g, 2, none⟩ = some (.int .u8 20) := cell_of_row wr g 2 _ _ _ HR
    clear HR
    obtain rfl | rfl : k = 0 ∨ k = 1 := by omega
    · rw [show ((0 : Nat) : Int) = (0 : Int) from rfl]
      generalize hz : n32 (ac 0) = z at lo0 hi0 ⊢
      have HZ : Hid (n32 (ac 0) = z) := hz
      clear hz
      go_wp2
      go_region
      go_wp2
      go_roundw
      · exact ⟨1, by omega, rfl, by rw [A1.out, ← or32, HZ.out, ← raw_11_0_20], Below.drew (hb.out.trans ((below_al wr _).mono hb.out.size))⟩
      · simp only [intOf]; omega
    · rw [show ((1 : Nat) : Int) = (1 : Int) from rfl]
      go_wp2
      go_ret
      exact ⟨by rw [AF.out]; rfl, hb.out⟩
set_option maxRecDepth 100000 in
set_option maxHeartbeats 2000000 in
theorem lay_B (n : Int) (w : World) (g : Nat) (hn : I64 n) (hr : w.heap[g]? = some (.cells #[.int .u8 12, .int .u8 12, .int .u8 31, .int .u8 11, .int .u8 11, .int .u8 7, .int .u8 10, .int .u8 5, .int .u8 25, .int .u8 4, .int .u8 1, .int .u8 8] 75 (0, 0))) : Calls Try.prog 33 #[.slice (some ⟨g, 0, none⟩) 4 4, .int .i64 n] w fun e w' => e = .returned (.int .u32 (n32 (lyB [⟨12, 12, 31⟩, ⟨11, 11, 7⟩, ⟨10, 5, 25⟩, ⟨4, 1, 8⟩] n))) ∧ Below w.heap.size w w' := by
  unfold I64 at hn
  have HC : Hid (∀ w', Below w.heap.size w w' → w'.heap[g]? = some (.cells #[.int .u8 12, .int .u8 12, .int .u8 31, .int .u8 11, .int .u8 11, .int .u8 7, .int .u8 10, .int .u8 5, .int .u8 25, .int .u8 4, .int .u8 1, .int .u8 8] 75 (0, 0))) := fun w' hb => (hb.block _ (Array.getElem?_eq_some_iff.1 hr).1).trans hr
  obtain ⟨ac, hac⟩ : ∃ ac : Nat → BitVec 32, ac = fun k => ([0#32, (0#32 ||| pkB n 12 12 31), ((0#32 ||| pkB n 12 12 31) ||| pkB n 11 11 7), (((0#32 ||| pkB n 12 12 31) ||| pkB n 11 11 7) ||| pkB n 10 5 25), ((((0#32 ||| pkB n 12 12 31) ||| pkB n 11 11 7) ||| pkB n 10 5 25) ||| pkB n 4 1 8)] : List (BitVec 32)).getD k 0#32 := ⟨_, rfl⟩
  have A0 : Hid (ac 0 = 0#32) := by rw [hac]; rfl
  have A1 : Hid (ac 1 = ac 0 ||| pkB n 12 12 31) := by rw [hac]; rfl
  have A2 : Hid (ac 2 = ac 1 ||| pkB n 11 11 7) := by rw [hac]; rfl
  have A3 : Hid (ac 3 = ac 2 ||| pkB n 10 5 25) := by rw [hac]; rfl
  have A4 : Hid (ac 4 = ac 3 ||| pkB n 4 1 8) := by rw [hac]; rfl
  have AF : Hid (lyB [⟨12, 12, 31⟩, ⟨11, 11, 7⟩, ⟨10, 5, 25⟩, ⟨4, 1, 8⟩] n = ac 4) := by rw [hac]; rfl
  clear hac hr
  go_enter Try.func33, Try.ntmps33
  go_wp2
  go_loopw [5, 14] (fun a i wr => ∃ k : Nat, k ≤ 4 ∧ i = .int .i64 k ∧ a = .int .u32 (n32 (ac k)) ∧ Hid (Below w.heap.size w wr)) (fun _ i _ => 4 - (intOf i).toNat)
  case atStart => exact ⟨0, by omega, rfl, by rw [A0.out]; rfl, Below.refl _ _⟩
  case round =>
    obtain ⟨k, hk, rfl, rfl, hb⟩ := hrel
    have HR := HC.out wr hb.out
    have lo0 := n32_lo (ac k)
    have hi0 := n32_hi (ac k)
    have d0 : wr.cell? ⟨g, 0, none⟩ = some (.int .u8 12) := cell_of_row wr g 0 _ _ _ HR
    have d1 : wr.cell? ⟨g, 1, none⟩ = some (.int .u8 12) := cell_of_row wr g 1 _ _ _ HR
    have d2 : wr.cell? ⟨g, 2, none⟩ = some (.int .u8 31) := cell_of_row wr g 2 _ _ _ HR
    have d3 : wr.cell? ⟨g, 3, none⟩ = some (.int .u8 11) := cell_of_row wr g 3 _ _ _ HR
    have d4 : wr.cell? ⟨g, 4, none⟩ = some (.int .u8 11) := cell_of_row wr g 4 _ _ _ HR
    have d5 : wr.cell? ⟨g, 5, none⟩ = some (.int .u8 7) := cell_of_row wr g 5 _ _ _ HR
    have d6 : wr.cell? ⟨g, 6, none⟩ = some (.int .u8 10) := cell_of_row wr g 6 _ _ _ HR
    have d7 : wr.cell? ⟨g, 7, none⟩ = some (.int .u8 5) := cell_of_row wr g 7 _ _ _ HR
    have d8 : wr.cell? ⟨g, 8, none⟩ = some (.int .u8 25) := cell_of_row wr g 8 _ _ _ HR
    have d9 : wr.cell? ⟨g, 9, none⟩ = some (.int .u8 4) := cell_of_row wr g 9 _ _ _ HR
    have d10 : wr.cell? ⟨g, 10, none⟩ = some (.int .u8 1) := cell_of_row wr g 10 _ _ _ HR
    have d11 : wr.cell? ⟨g, 11, none⟩ = some (.int .u8 8) := cell_of_row wr g 11 _ _ _ HR
    clear HR
    obtain rfl | rfl | rfl | rfl | rfl : k = 0 ∨ k = 1 ∨ k = 2 ∨ k = 3 ∨ k = 4 := by omega
    · rw [show ((0 : Nat) : Int) = (0 : Int) from rfl]
      generalize hz : n32 (ac 0) = z at lo0 hi0 ⊢
      have HZ : Hid (n32 (ac 0) = z) := hz
      clear hz
      go_wp2
      go_region
      go_wp2
      go_roundw
      · exact ⟨1, by omega, rfl, by rw [A1.out, ← or32, HZ.out, ← raw_12_12_31], Below.drew (hb.out.trans ((below_al wr _).mono hb.out.size))⟩
      · simp only [intOf]; omega
    · rw [show ((1 : Nat) : Int) = (1 : Int) from rfl]
      generalize hz : n32 (ac 1) = z at lo0 hi0 ⊢
      have HZ : Hid (n32 (ac 1) = z) := hz
      clear hz
      go_wp2
      go_region
      go_wp2
      go_roundw
      · exact ⟨2, by omega, rfl, by rw [A2.out, ← or32, HZ.out, ← raw_11_11_7], Below.drew (hb.out.trans ((below_al wr _).mono hb.out.size))⟩
      · simp only [intOf]; omega
    · rw [show ((2 : Nat) : Int) = (2 : Int) from rfl]
      generalize hz : n32 (ac 2) = z at lo0 hi0 ⊢
      have HZ : Hid (n32 (ac 2) = z) := hz
      clear hz
      go_wp2
      go_region
      go_wp2
      go_roundw
      · exact ⟨3, by omega, rfl, by rw [A3.out, ← or32, HZ.out, ← raw_10_5_25], Below.drew (hb.out.trans ((below_al wr _).mono hb.out.size))⟩
      · simp only [intOf]; omega
    · rw [show ((3 : Nat) : Int) = (3 : Int) from rfl]
      generalize hz : n32 (ac 3) = z at lo0 hi0 ⊢
      have HZ : Hid (n32 (ac 3) = z) := hz
      clear hz
      go_wp2
      go_region
      go_wp2
      go_roundw
      · exact ⟨4, by omega, rfl, by rw [A4.out, ← or32, HZ.out, ← raw_4_1_8], Below.drew (hb.out.trans ((below_al wr _).mono hb.out.size))⟩
      · simp only [intOf]; omega
    · rw [show ((4 : Nat) : Int) = (4 : Int) from rfl]
      go_wp2
      go_ret
      exact ⟨by rw [AF.out]; rfl, hb.out⟩
set_option maxRecDepth 100000 in
set_option maxHeartbeats 2000000 in
theorem lay_S (n : Int) (w : World) (g : Nat) (hn : I64 n) (hr : w.heap[g]? = some (.cells #[.int .u8 11, .int .u8 5, .int .u8 25, .int .u8 4, .int .u8 0, .int .u8 7] 75 (0, 0))) : Calls Try.prog 33 #[.slice (some ⟨g, 0, none⟩) 2 2, .int .i64 n] w fun e w' => e = .returned (.int .u32 (n32 (lyB [⟨11, 5, 25⟩, ⟨4, 0, 7⟩] n))) ∧ Below w.heap.size w w' := by
  unfold I64 at hn
  have HC : Hid (∀ w', Below w.heap.size w w' → w'.heap[g]? = some (.cells #[.int .u8 11, .int .u8 5, .int .u8 25, .int .u8 4, .int .u8 0, .int .u8 7] 75 (0, 0))) := fun w' hb => (hb.block _ (Array.getElem?_eq_some_iff.1 hr).1).trans hr
  obtain ⟨ac, hac⟩ : ∃ ac : Nat → BitVec 32, ac = fun k => ([0#32, (0#32 ||| pkB n 11 5 25), ((0#32 ||| pkB n 11 5 25) ||| pkB n 4 0 7)] : List (BitVec 32)).getD k 0#32 := ⟨_, rfl⟩
  have A0 : Hid (ac 0 = 0#32) := by rw [hac]; rfl
  have A1 : Hid (ac 1 = ac 0 ||| pkB n 11 5 25) := by rw [hac]; rfl
  have A2 : Hid (ac 2 = ac 1 ||| pkB n 4 0 7) := by rw [hac]; rfl
  have AF : Hid (lyB [⟨11, 5, 25⟩, ⟨4, 0, 7⟩] n = ac 2) := by rw [hac]; rfl
  clear hac hr
  go_enter Try.func33, Try.ntmps33
  go_wp2
  go_loopw [5, 14] (fun a i wr => ∃ k : Nat, k ≤ 2 ∧ i = .int .i64 k ∧ a = .int .u32 (n32 (ac k)) ∧ Hid (Below w.heap.size w wr)) (fun _ i _ => 2 - (intOf i).toNat)
  case atStart => exact ⟨0, by omega, rfl, by rw [A0.out]; rfl, Below.refl _ _⟩
  case round =>
    obtain ⟨k, hk, rfl, rfl, hb⟩ := hrel
    have HR := HC.out wr hb.out
    have lo0 := n32_lo (ac k)
    have hi0 := n32_hi (ac k)
    have d0 : wr.cell? ⟨g, 0, none⟩ = some (.int .u8 11) := cell_of_row wr g 0 _ _ _ HR
    have d1 : wr.cell? ⟨g, 1, none⟩ = some (.int .u8 5) := cell_of_row wr g 1 _ _ _ HR
    have d2 : wr.cell? ⟨g, 2, none⟩ = some (.int .u8 25) := cell_of_row wr g 2 _ _ _ HR
    have d3 : wr.cell? ⟨g, 3, none⟩ = some (.int .u8 4) := cell_of_row wr g 3 _ _ _ HR
    have d4 : wr.cell? ⟨g, 4, none⟩ = some (.int .u8 0) := cell_of_row wr g 4 _ _ _ HR
    have d5 : wr.cell? ⟨g, 5, none⟩ = some (.int .u8 7) := cell_of_row wr g 5 _ _ _ HR
    clear HR
    obtain rfl | rfl | rfl : k = 0 ∨ k = 1 ∨ k = 2 := by omega
    · rw [show ((0 : Nat) : Int) = (0 : Int) from rfl]
      generalize hz : n32 (ac 0) = z at lo0 hi0 ⊢
      have HZ : Hid (n32 (ac 0) = z) := hz
      clear hz
      go_wp2
      go_region
      go_wp2
      go_roundw
      · exact ⟨1, by omega, rfl, by rw [A1.out, ← or32, HZ.out, ← raw_11_5_25], Below.drew (hb.out.trans ((below_al wr _).mono hb.out.size))⟩
      · simp only [intOf]; omega
    · rw [show ((1 : Nat) : Int) = (1 : Int) from rfl]
      generalize hz : n32 (ac 1) = z at lo0 hi0 ⊢
      have HZ : Hid (n32 (ac 1) = z) := hz
      clear hz
      go_wp2
      go_region
      go_wp2
      go_roundw
      · exact ⟨2, by omega, rfl, by rw [A2.out, ← or32, HZ.out, ← raw_4_0_7], Below.drew (hb.out.trans ((below_al wr _).mono hb.out.size))⟩
      · simp only [intOf]; omega
    · rw [show ((2 : Nat) : Int) = (2 : Int) from rfl]
      go_wp2
      go_ret
      exact ⟨by rw [AF.out]; rfl, hb.out⟩
set_option maxRecDepth 100000 in
set_option maxHeartbeats 2000000 in
theorem lay_H (n : Int) (w : World) (g : Nat) (hn : I64 n) (hr : w.heap[g]? = some (.cells #[.int .u8 5, .int .u8 0, .int .u8 20] 75 (0, 0))) : Calls Try.prog 33 #[.slice (some ⟨g, 0, none⟩) 1 1, .int .i64 n] w fun e w' => e = .returned (.int .u32 (n32 (lyB [⟨5, 0, 20⟩] n))) ∧ Below w.heap.size w w' := by
  unfold I64 at hn
  have HC : Hid (∀ w', Below w.heap.size w w' → w'.heap[g]? = some (.cells #[.int .u8 5, .int .u8 0, .int .u8 20] 75 (0, 0))) := fun w' hb => (hb.block _ (Array.getElem?_eq_some_iff.1 hr).1).trans hr
  obtain ⟨ac, hac⟩ : ∃ ac : Nat → BitVec 32, ac = fun k => ([0#32, (0#32 ||| pkB n 5 0 20)] : List (BitVec 32)).getD k 0#32 := ⟨_, rfl⟩
  have A0 : Hid (ac 0 = 0#32) := by rw [hac]; rfl
  have A1 : Hid (ac 1 = ac 0 ||| pkB n 5 0 20) := by rw [hac]; rfl
  have AF : Hid (lyB [⟨5, 0, 20⟩] n = ac 1) := by rw [hac]; rfl
  clear hac hr
  go_enter Try.func33, Try.ntmps33
  go_wp2
  go_loopw [5, 14] (fun a i wr => ∃ k : Nat, k ≤ 1 ∧ i = .int .i64 k ∧ a = .int .u32 (n32 (ac k)) ∧ Hid (Below w.heap.size w wr)) (fun _ i _ => 1 - (intOf i).toNat)
  case atStart => exact ⟨0, by omega, rfl, by rw [A0.out]; rfl, Below.refl _ _⟩
  case round =>
    obtain ⟨k, hk, rfl, rfl, hb⟩ := hrel
    have HR := HC.out wr hb.out
    have lo0 := n32_lo (ac k)
    have hi0 := n32_hi (ac k)
    have d0 : wr.cell? ⟨g, 0, none⟩ = some (.int .u8 5) := cell_of_row wr g 0 _ _ _ HR
    have d1 : wr.cell? ⟨g, 1, none⟩ = some (.int .u8 0) := cell_of_row wr g 1 _ _ _ HR
    have d2 : wr.cell? ⟨g, 2, none⟩ = some (.int .u8 20) := cell_of_row wr g 2 _ _ _ HR
    clear HR
    obtain rfl | rfl : k = 0 ∨ k = 1 := by omega
    · rw [show ((0 : Nat) : Int) = (0 : Int) from rfl]
      generalize hz : n32 (ac 0) = z at lo0 hi0 ⊢
      have HZ : Hid (n32 (ac 0) = z) := hz
      clear hz
      go_wp2
      go_region
      go_wp2
      go_roundw
      · exact ⟨1, by omega, rfl, by rw [A1.out, ← or32, HZ.out, ← raw_5_0_20], Below.drew (hb.out.trans ((below_al wr _).mono hb.out.size))⟩
      · simp only [intOf]; omega
    · rw [show ((1 : Nat) : Int) = (1 : Int) from rfl]
      go_wp2
      go_ret
      exact ⟨by rw [AF.out]; rfl, hb.out⟩
end Go.Proofs.Ytechkhlibdkmpac
