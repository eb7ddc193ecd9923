/-
  Put of the program and of the reference.
-/
import Derived.Test.YtjdlbkjkooeceabMb
namespace Go.Proofs.Ytjdlbkjkooeceab
set_option linter.unusedVariables false
open Go.ChangeShapes Go.WideShapes Go.ChangeAt Go.RowKit
theorem info5 : (Try.prog.info? 5).map (fun i => (i.zero, i.size, i.bytes)) = some (some (.int .u8 0), 1, 1) := by kernel_rfl
/-- The bytes as the machine's values. -/
def bv (l : List Int) : List Value := l.map (Value.int .u8)
theorem bv_length (l : List Int) : (bv l).length = l.length := by simp [bv]
/-- A row half written. -/
def hw (N n k : Nat) : List Int := ptL N k ++ List.replicate (n - k) 0
theorem hw_length (N n k : Nat) (h : k ≤ n) : (hw N n k).length = n := by simp [hw, ptL_length]; omega
theorem hw_zero (N n : Nat) : hw N n 0 = List.replicate n 0 := by simp [hw, ptL]
theorem hw_full (N n : Nat) : hw N n n = ptL N n := by simp [hw]
theorem hw_set (N n k : Nat) (h : k < n) : (hw N n k).set k ((N / 256 ^ k % 256 : Nat) : Int) = hw N n (k + 1) := by
  unfold hw
  rw [List.set_append_right _ _ (by rw [ptL_length]; exact Nat.le_refl _), ptL_length, Nat.sub_self, ptL_succ, List.append_assoc]
  congr 1
  obtain ⟨d, hd⟩ : ∃ d, n - k = d + 1 := ⟨n - k - 1, by omega⟩
  rw [hd, List.replicate_succ, show n - (k + 1) = d by omega]
  rfl
theorem bv_set (l : List Int) (k : Nat) (z : Int) : (bv l).set k (.int .u8 z) = bv (l.set k z) := by simp [bv, List.map_set]
theorem bv_get (l : List Int) (k : Nat) (h : k < l.length) : (bv l)[k]? = some (.int .u8 (l.getD k 0)) := by simp [bv, h]
theorem made_bv (n : Nat) : (madeCells #[Value.int .u8 0] (n * 1)).toList = bv (List.replicate n 0) := by
  rw [Nat.mul_one, toList_madeCells_one]; simp [bv]
theorem byte_of (x : BitVec 64) (k : Nat) : IntKind.u8.wrap (n64 x / 2 ^ (8 * k)) = ((x.toNat / 256 ^ k % 256 : Nat) : Int) := by
  unfold n64
  rw [show ((2 : Int) ^ (8 * k)) = (((2 : Nat) ^ (8 * k) : Nat) : Int) by simp, ← Int.natCast_ediv, pow8]
  generalize x.toNat / 256 ^ k = M
  simp [IntKind.wrap, IntKind.signed, IntKind.bits]
set_option maxHeartbeats 1000000 in
theorem put_mid (x : BitVec 64) (n : Nat) (h0 : 0 < n) (h8 : n ≤ 8) (w : World) :
    Calls Try.prog 8 #[.int .u64 (n64 x), .int .i64 (n : Int)] w fun e w' => e = .returned (.slice (some ⟨w.heap.size, 0, none⟩) n n) ∧ w'.ownsRow w.heap.size 5 1 (.slice (some ⟨w.heap.size, 0, none⟩) n n) n (bv (ptL x.toNat n)) ∧ Below w.heap.size w w' := by
  obtain ⟨i0, hi, hz0, hz1, hz2⟩ := info_parts info5
  have HI : Hid (Try.prog.info? 5 = some i0) := hi
  have HZ0 : Hid (i0.zero = some (.int .u8 0)) := hz0
  have HZ1 : Hid (i0.size = 1) := hz1
  have HZ2 : Hid (i0.bytes = 1) := hz2
  clear hi hz0 hz1 hz2
  have f1 : (n : Int) ≤ 8 := by omega
  have f2 : (0 : Int) < (n : Int) := by omega
  go_enter Try.func8, Try.ntmps8
  go_wp2_with (at_make; refine wpList_make_full _ (by rfl) _ _ 22 (by rfl) w.heap.size 5 i0 (.int .u8 0) 1 Try.underlying22 HI.out HZ0.out HZ1.out _ _ _ _ n (by rfl) (by rfl) (by omega) (by omega) (by rw [HZ2.out]; omega) (by unfold maxLen; omega) (Nat.le_refl _) ?_; intro w1 hown hgrow)
  have HO : Hid (w1.ownsRow w.heap.size 5 1 (.slice (some ⟨w.heap.size, 0, none⟩) n n) n (bv (hw x.toNat n 0))) := by
    have h := hown; rw [show (Value.int .u8 0).cells = #[Value.int .u8 0] from rfl, made_bv] at h; rw [hw_zero]; exact h
  have HB : Hid (Below w.heap.size w w1) := (Below.refl _ _).grown hgrow (Nat.le_refl _) (fun k hk => by cases hk)
  clear hown hgrow
  obtain ⟨B, hB⟩ : ∃ B, B = w.heap.size := ⟨_, rfl⟩
  have HB0 : Hid (B = w.heap.size) := hB
  clear hB
  rw [← HB0.out] at HO HB ⊢
  go_wp2
  go_loopw [13] (fun i wr => ∃ k : Nat, k ≤ n ∧ i = .int .i64 k ∧ Hid (wr.ownsRow B 5 1 (.slice (some ⟨B, 0, none⟩) n n) n (bv (hw x.toNat n k))) ∧ Hid (Below B w wr)) (fun i _ => n - (intOf i).toNat)
  case atStart => exact ⟨0, Nat.zero_le _, rfl, HO, HB⟩
  case round =>
    obtain ⟨k, hk, rfl, hown, hbel⟩ := hrel
    clear HO HB
    by_cases hlt : k < n
    · have hlt2 : (k : Int) < (n : Int) := by omega
      have hlt8 : (k : Int) < 8 := by omega
      have hce : wr.cell? ⟨B, k, none⟩ = some (.int .u8 ((hw x.toNat n k).getD k 0)) := by
        rw [hown.out.cellAt k (by omega), bv_get _ _ (by rw [hw_length _ _ _ (by omega)]; omega)]
      have hfr := hown.out.frozenAt k
      have HW : Hid (IntKind.u8.wrap (n64 x / 2 ^ (8 * k)) = ((x.toNat / 256 ^ k % 256 : Nat) : Int)) := byte_of x k
      obtain ⟨zz, hzz⟩ : ∃ zz, zz = (hw x.toNat n k).getD k 0 := ⟨_, rfl⟩
      rw [← hzz] at hce
      clear hzz
      go_wp2
      go_roundw
      case rel =>
        refine ⟨k + 1, by omega, by go_num, ?_, ?_⟩
        · have h1 := (hown.out.stored k (.int .u8 (IntKind.u8.wrap (n64 x / 2 ^ (8 * k))))).1
          rw [bv_set, HW.out, hw_set _ _ _ hlt] at h1
          unfold Hid
          rw [← HW.out] at h1
          exact h1
        · exact Below.setCell hbel.out (Nat.le_refl _) _
      case measure => simp [intOf]; omega
    · have hkn : k = n := by omega
      subst hkn
      rw [hw_full] at hown
      go_wp2
      go_ret
      have hB := HB0.out
      subst hB
      exact ⟨rfl, hown.out, hbel.out⟩
set_option maxHeartbeats 1000000 in
theorem put_lo (x : BitVec 64) (z : Int) (h0 : z ≤ 0) (w : World) :
    Calls Try.prog 8 #[.int .u64 (n64 x), .int .i64 z] w fun e w' => e = .returned (.slice (some ⟨w.heap.size, 0, none⟩) 0 0) ∧ w'.ownsRow w.heap.size 5 1 (.slice (some ⟨w.heap.size, 0, none⟩) 0 0) 0 (bv (ptL x.toNat 0)) ∧ Below w.heap.size w w' := by
  obtain ⟨i0, hi, hz0, hz1, hz2⟩ := info_parts info5
  have HI : Hid (Try.prog.info? 5 = some i0) := hi
  have HZ0 : Hid (i0.zero = some (.int .u8 0)) := hz0
  have HZ1 : Hid (i0.size = 1) := hz1
  have HZ2 : Hid (i0.bytes = 1) := hz2
  clear hi hz0 hz1 hz2
  have f1 : z < 8 := by omega
  go_enter Try.func8, Try.ntmps8
  go_wp2_with (at_make; refine wpList_make_full _ (by rfl) _ _ 22 (by rfl) w.heap.size 5 i0 (.int .u8 0) 1 Try.underlying22 HI.out HZ0.out HZ1.out _ _ _ _ 0 (by rfl) (by rfl) (by omega) (by omega) (by rw [HZ2.out]; omega) (by unfold maxLen; omega) (Nat.le_refl _) ?_; intro w1 hown hgrow)
  have HO : Hid (w1.ownsRow w.heap.size 5 1 (.slice (some ⟨w.heap.size, 0, none⟩) 0 0) 0 (bv (hw x.toNat 0 0))) := by
    have h := hown; rw [show (Value.int .u8 0).cells = #[Value.int .u8 0] from rfl, made_bv] at h; rw [hw_zero]; exact h
  have HB : Hid (Below w.heap.size w w1) := (Below.refl _ _).grown hgrow (Nat.le_refl _) (fun k hk => by cases hk)
  clear hown hgrow
  obtain ⟨B, hB⟩ : ∃ B, B = w.heap.size := ⟨_, rfl⟩
  have HB0 : Hid (B = w.heap.size) := hB
  clear hB
  rw [← HB0.out] at HO HB ⊢
  go_wp2
  go_loopw [13] (fun i wr => ∃ k : Nat, k ≤ 0 ∧ i = .int .i64 k ∧ Hid (wr.ownsRow B 5 1 (.slice (some ⟨B, 0, none⟩) 0 0) 0 (bv (hw x.toNat 0 k))) ∧ Hid (Below B w wr)) (fun i _ => 0 - (intOf i).toNat)
  case atStart => exact ⟨0, Nat.zero_le _, rfl, HO, HB⟩
  case round =>
    obtain ⟨k, hk, rfl, hown, hbel⟩ := hrel
    clear HO HB
    by_cases hlt : k < 0
    · exact absurd hlt (by omega)
    · have hkn : k = 0 := by omega
      subst hkn
      rw [hw_full] at hown
      go_wp2
      go_ret
      have hB := HB0.out
      subst hB
      exact ⟨rfl, hown.out, hbel.out⟩
set_option maxHeartbeats 1000000 in
theorem put_hi (x : BitVec 64) (z : Int) (h8 : 8 < z) (w : World) :
    Calls Try.prog 8 #[.int .u64 (n64 x), .int .i64 z] w fun e w' => e = .returned (.slice (some ⟨w.heap.size, 0, none⟩) 8 8) ∧ w'.ownsRow w.heap.size 5 1 (.slice (some ⟨w.heap.size, 0, none⟩) 8 8) 8 (bv (ptL x.toNat 8)) ∧ Below w.heap.size w w' := by
  obtain ⟨i0, hi, hz0, hz1, hz2⟩ := info_parts info5
  have HI : Hid (Try.prog.info? 5 = some i0) := hi
  have HZ0 : Hid (i0.zero = some (.int .u8 0)) := hz0
  have HZ1 : Hid (i0.size = 1) := hz1
  have HZ2 : Hid (i0.bytes = 1) := hz2
  clear hi hz0 hz1 hz2
  have f1 : (8 : Int) < z := by omega
  go_enter Try.func8, Try.ntmps8
  go_wp2_with (at_make; refine wpList_make_full _ (by rfl) _ _ 22 (by rfl) w.heap.size 5 i0 (.int .u8 0) 1 Try.underlying22 HI.out HZ0.out HZ1.out _ _ _ _ 8 (by rfl) (by rfl) (by omega) (by omega) (by rw [HZ2.out]; omega) (by unfold maxLen; omega) (Nat.le_refl _) ?_; intro w1 hown hgrow)
  have HO : Hid (w1.ownsRow w.heap.size 5 1 (.slice (some ⟨w.heap.size, 0, none⟩) 8 8) 8 (bv (hw x.toNat 8 0))) := by
    have h := hown; rw [show (Value.int .u8 0).cells = #[Value.int .u8 0] from rfl, made_bv] at h; rw [hw_zero]; exact h
  have HB : Hid (Below w.heap.size w w1) := (Below.refl _ _).grown hgrow (Nat.le_refl _) (fun k hk => by cases hk)
  clear hown hgrow
  obtain ⟨B, hB⟩ : ∃ B, B = w.heap.size := ⟨_, rfl⟩
  have HB0 : Hid (B = w.heap.size) := hB
  clear hB
  rw [← HB0.out] at HO HB ⊢
  go_wp2
  go_loopw [13] (fun i wr => ∃ k : Nat, k ≤ 8 ∧ i = .int .i64 k ∧ Hid (wr.ownsRow B 5 1 (.slice (some ⟨B, 0, none⟩) 8 8) 8 (bv (hw x.toNat 8 k))) ∧ Hid (Below B w wr)) (fun i _ => 8 - (intOf i).toNat)
  case atStart => exact ⟨0, Nat.zero_le _, rfl, HO, HB⟩
  case round =>
    obtain ⟨k, hk, rfl, hown, hbel⟩ := hrel
    clear HO HB
    by_cases hlt : k < 8
    · have hlt2 : (k : Int) < (8 : Int) := by omega
      have hlt8 : (k : Int) < 8 := by omega
      have hce : wr.cell? ⟨B, k, none⟩ = some (.int .u8 ((hw x.toNat 8 k).getD k 0)) := by
        rw [hown.out.cellAt k (by omega), bv_get _ _ (by rw [hw_length _ _ _ (by omega)]; omega)]
      have hfr := hown.out.frozenAt k
      have HW : Hid (IntKind.u8.wrap (n64 x / 2 ^ (8 * k)) = ((x.toNat / 256 ^ k % 256 : Nat) : Int)) := byte_of x k
      obtain ⟨zz, hzz⟩ : ∃ zz, zz = (hw x.toNat 8 k).getD k 0 := ⟨_, rfl⟩
      rw [← hzz] at hce
      clear hzz
      go_wp2
      go_roundw
      case rel =>
        refine ⟨k + 1, by omega, by go_num, ?_, ?_⟩
        · have h1 := (hown.out.stored k (.int .u8 (IntKind.u8.wrap (n64 x / 2 ^ (8 * k))))).1
          rw [bv_set, HW.out, hw_set _ _ _ hlt] at h1
          unfold Hid
          rw [← HW.out] at h1
          exact h1
        · exact Below.setCell hbel.out (Nat.le_refl _) _
      case measure => simp [intOf]; omega
    · have hkn : k = 8 := by omega
      subst hkn
      rw [hw_full] at hown
      go_wp2
      go_ret
      have hB := HB0.out
      subst hB
      exact ⟨rfl, hown.out, hbel.out⟩
/-- How many bytes Put gives. -/
def cl (z : Int) : Nat := (max 0 (min z 8)).toNat
theorem cl_le (z : Int) : cl z ≤ 8 := by unfold cl; omega
theorem put_any (x : BitVec 64) (z : Int) (w : World) :
    Calls Try.prog 8 #[.int .u64 (n64 x), .int .i64 z] w fun e w' => e = .returned (.slice (some ⟨w.heap.size, 0, none⟩) (cl z) (cl z)) ∧ w'.ownsRow w.heap.size 5 1 (.slice (some ⟨w.heap.size, 0, none⟩) (cl z) (cl z)) (cl z) (bv (ptL x.toNat (cl z))) ∧ Below w.heap.size w w' := by
  by_cases h0 : z ≤ 0
  · have e : cl z = 0 := by unfold cl; omega
    rw [e]; exact put_lo x z h0 w
  · by_cases h8 : 8 < z
    · have e : cl z = 8 := by unfold cl; omega
      rw [e]; exact put_hi x z h8 w
    · obtain ⟨n, rfl⟩ : ∃ n : Nat, z = (n : Int) := ⟨z.toNat, by omega⟩
      have e : cl (n : Int) = n := by unfold cl; omega
      rw [e]; exact put_mid x n (by omega) (by omega) w
end Go.Proofs.Ytjdlbkjkooeceab
