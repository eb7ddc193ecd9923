/-
  Lists of bytes in memory; Take of the program and of the reference.
-/
import Derived.Test.YtjdlbkjkooeceabMa
namespace Go.Proofs.Ytjdlbkjkooeceab
set_option linter.unusedVariables false
open Go.ChangeShapes Go.WideShapes Go.ChangeAt Go.RowKit
/-- A list of bytes in memory, wherever it lies. -/
def Byt (w : World) (v : Value) (l : List Int) : Prop :=
  ∃ a cap, v = .slice a l.length cap ∧ l.length ≤ cap ∧ (a = none → cap = 0) ∧ (l ≠ [] → ∃ g off, a = some ⟨g, off, none⟩ ∧ g < w.heap.size ∧ ∀ j, j < l.length → w.cell? ⟨g, off + j, none⟩ = some (.int .u8 (l.getD j 0)))
theorem Byt.later {w w' : World} {v : Value} {l : List Int} (h : Byt w v l) {B : Nat} (hb : Below B w w') (hB : B = w.heap.size) : Byt w' v l := by
  obtain ⟨a, cap, rfl, h1, h1', h2⟩ := h
  refine ⟨a, cap, rfl, h1, h1', fun hn => ?_⟩
  obtain ⟨g, off, rfl, h3, h4⟩ := h2 hn
  exact ⟨g, off, rfl, Nat.lt_of_lt_of_le h3 hb.size, fun j hj => by rw [hb.cell (by rw [hB]; exact h3)]; exact h4 j hj⟩
theorem nat64 {N : Nat} (h : N < 18446744073709551616) : ((N : Nat) : Int) = n64 (BitVec.ofNat 64 N) := by
  unfold n64; rw [BitVec.toNat_ofNat, Nat.mod_eq_of_lt h]
theorem pow8 (k : Nat) : (2 : Nat) ^ (8 * k) = 256 ^ k := by rw [Nat.pow_mul]
theorem take_step {l : List Int} (h : AllB l) (k : Nat) (hk : k < 8) :
    bits .or .u64 ((tkN l k : Nat) : Int) (IntKind.u64.wrap (l.getD k 0 * 2 ^ (8 * k))) = ((tkN l (k + 1) : Nat) : Int) := by
  have hb := getD_byte h k
  have hlt := tkN_lt h k
  have h64 : (256 : Nat) ^ (k + 1) ≤ 256 ^ 8 := Nat.pow_le_pow_right (by decide) (by omega)
  have hd : ((l.getD k 0).toNat : Int) = l.getD k 0 := by omega
  have hprod : (l.getD k 0).toNat * 256 ^ k ≤ 255 * 256 ^ k := Nat.mul_le_mul_right _ (by omega)
  have hp : (l.getD k 0).toNat * 256 ^ k < 18446744073709551616 := by
    have : 255 * 256 ^ k < 256 ^ (k + 1) := by rw [Nat.pow_succ]; have := Nat.pow_pos (n := k) (show 0 < 256 by decide); omega
    exact Nat.lt_of_le_of_lt hprod (Nat.lt_of_lt_of_le this h64)
  have hk1 : tkN l (k + 1) < 18446744073709551616 := Nat.lt_of_lt_of_le (tkN_lt h (k + 1)) h64
  have hk0 : tkN l k < 18446744073709551616 := Nat.lt_of_le_of_lt (by rw [tkN]; omega) hk1
  have e1 : l.getD k 0 * 2 ^ (8 * k) = (((l.getD k 0).toNat * 256 ^ k : Nat) : Int) := by
    rw [Int.natCast_mul, hd, ← pow8]; rfl
  rw [e1, nat64 hp, wrap_n64, ofInt_n64, nat64 hk0, n64_or, nat64 hk1]
  congr 1
  apply BitVec.eq_of_toNat_eq
  rw [BitVec.toNat_or, BitVec.toNat_ofNat, BitVec.toNat_ofNat, BitVec.toNat_ofNat, Nat.mod_eq_of_lt hk0, Nat.mod_eq_of_lt hp, Nat.mod_eq_of_lt hk1, tkN, Nat.or_comm, Nat.mul_comm, ← pow8, ← Nat.two_pow_add_eq_or_of_lt (by rw [pow8]; exact hlt)]
  omega

set_option maxHeartbeats 1000000 in
theorem take_short {l : List Int} (h : AllB l) (hyp : l.length ≤ 8) (hl : l.length ≤ 140737488355328) (v : Value) (w : World) (hv : Byt w v l) :
    Calls Try.prog 5 #[v] w fun e w' => e = .returned (.int .u64 ((tk l : Nat) : Int)) ∧ w' = w := by
  have HT : Hid (tk l = tkN l l.length) := by unfold Hid tk; rw [show min l.length 8 = l.length by omega]
  obtain ⟨a, cap, rfl, hc, _, hr⟩ := hv
  have HB : Hid (AllB l) := h
  have HR : Hid (l ≠ [] → ∃ g off, a = some ⟨g, off, none⟩ ∧ g < w.heap.size ∧ ∀ j, j < l.length → w.cell? ⟨g, off + j, none⟩ = some (.int .u8 (l.getD j 0))) := hr
  clear h hr
  have hs : (l.length : Int) ≤ 8 := by omega
  go_enter Try.func5, Try.ntmps5
  go_wp2
  go_loopw [3, 8] (fun v i wr => ∃ k : Nat, k ≤ l.length ∧ i = .int .i64 k ∧ v = .int .u64 ((tkN l k : Nat) : Int) ∧ wr = w) (fun _ i _ => l.length - (intOf i).toNat)
  case atStart => exact ⟨0, Nat.zero_le _, rfl, rfl, rfl⟩
  case round =>
    obtain ⟨k, hk, rfl, rfl, rfl⟩ := hrel
    by_cases hlt : k < l.length
    · obtain ⟨g, off, rfl, _, hcell⟩ := HR.out (by intro e; have := congrArg List.length e; simp only [List.length_nil] at this; omega)
      have hk8 : k < 8 := by omega
      have hkl : k < l.length := by omega
      have hkl2 : (k : Int) < (l.length : Int) := by omega
      have hk82 : (k : Int) < 8 := by omega
      have hce := hcell k hkl
      have hby := getD_byte HB.out k
      have HS := take_step HB.out k hk8
      have HS' : Hid (bits .or .u64 ((tkN l k : Nat) : Int) (IntKind.u64.wrap (l.getD k 0 * 2 ^ (8 * k))) = ((tkN l (k + 1) : Nat) : Int)) := HS
      clear HS hcell
      obtain ⟨z, hz⟩ : ∃ z, z = l.getD k 0 := ⟨_, rfl⟩
      rw [← hz] at hce hby
      have HZ : Hid (z = l.getD k 0) := hz
      clear hz
      obtain ⟨M, hM⟩ : ∃ M, M = tkN l k := ⟨_, rfl⟩
      rw [← hM]
      have HM : Hid (M = tkN l k) := hM
      clear hM
      go_wp2
      go_roundw
      case rel => exact ⟨k + 1, by omega, by go_num, by rw [← HS'.out, ← HZ.out, ← HM.out], trivial⟩
      case measure => simp [intOf]; omega
    · have hkn : k = l.length := by omega
      subst hkn
      go_wp2
      go_ret
      exact ⟨ret_int (by rw [HT.out]), rfl⟩
set_option maxHeartbeats 1000000 in
theorem take_long {l : List Int} (h : AllB l) (hyp : 8 < l.length) (hl : l.length ≤ 140737488355328) (v : Value) (w : World) (hv : Byt w v l) :
    Calls Try.prog 5 #[v] w fun e w' => e = .returned (.int .u64 ((tk l : Nat) : Int)) ∧ w' = w := by
  have HT : Hid (tk l = tkN l 8) := by unfold Hid tk; rw [show min l.length 8 = 8 by omega]
  obtain ⟨a, cap, rfl, hc, _, hr⟩ := hv
  have HB : Hid (AllB l) := h
  have HR : Hid (l ≠ [] → ∃ g off, a = some ⟨g, off, none⟩ ∧ g < w.heap.size ∧ ∀ j, j < l.length → w.cell? ⟨g, off + j, none⟩ = some (.int .u8 (l.getD j 0))) := hr
  clear h hr
  have hs : (8 : Int) < (l.length : Int) := by omega
  go_enter Try.func5, Try.ntmps5
  go_wp2
  go_loopw [3, 8] (fun v i wr => ∃ k : Nat, k ≤ 8 ∧ i = .int .i64 k ∧ v = .int .u64 ((tkN l k : Nat) : Int) ∧ wr = w) (fun _ i _ => 8 - (intOf i).toNat)
  case atStart => exact ⟨0, Nat.zero_le _, rfl, rfl, rfl⟩
  case round =>
    obtain ⟨k, hk, rfl, rfl, rfl⟩ := hrel
    by_cases hlt : k < 8
    · obtain ⟨g, off, rfl, _, hcell⟩ := HR.out (by intro e; have := congrArg List.length e; simp only [List.length_nil] at this; omega)
      have hk8 : k < 8 := by omega
      have hkl : k < l.length := by omega
      have hkl2 : (k : Int) < (l.length : Int) := by omega
      have hk82 : (k : Int) < 8 := by omega
      have hce := hcell k hkl
      have hby := getD_byte HB.out k
      have HS := take_step HB.out k hk8
      have HS' : Hid (bits .or .u64 ((tkN l k : Nat) : Int) (IntKind.u64.wrap (l.getD k 0 * 2 ^ (8 * k))) = ((tkN l (k + 1) : Nat) : Int)) := HS
      clear HS hcell
      obtain ⟨z, hz⟩ : ∃ z, z = l.getD k 0 := ⟨_, rfl⟩
      rw [← hz] at hce hby
      have HZ : Hid (z = l.getD k 0) := hz
      clear hz
      obtain ⟨M, hM⟩ : ∃ M, M = tkN l k := ⟨_, rfl⟩
      rw [← hM]
      have HM : Hid (M = tkN l k) := hM
      clear hM
      go_wp2
      go_roundw
      case rel => exact ⟨k + 1, by omega, by go_num, by rw [← HS'.out, ← HZ.out, ← HM.out], trivial⟩
      case measure => simp [intOf]; omega
    · have hkn : k = 8 := by omega
      subst hkn
      go_wp2
      go_ret
      exact ⟨ret_int (by rw [HT.out]), rfl⟩
theorem small_wrap {N : Nat} (h : N < 18446744073709551616) : IntKind.u64.wrap ((N : Nat) : Int) = (N : Int) := by
  rw [nat64 h, wrap_n64, ofInt_n64]
theorem mul_step (d q : Nat) (hd : d ≤ 255) (hq : q < 7) : IntKind.u64.wrap (((d * 256 ^ q : Nat) : Int) * 256) = ((d * 256 ^ (q + 1) : Nat) : Int) := by
  have e : ((d * 256 ^ q : Nat) : Int) * 256 = ((d * 256 ^ (q + 1) : Nat) : Int) := by
    rw [show (256 : Int) = ((256 : Nat) : Int) from rfl, ← Int.natCast_mul, Nat.pow_succ, Nat.mul_assoc]
  rw [e]
  apply small_wrap
  have h1 : d * 256 ^ (q + 1) ≤ 255 * 256 ^ 7 := Nat.mul_le_mul hd (Nat.pow_le_pow_right (by decide) (by omega))
  exact Nat.lt_of_le_of_lt h1 (by decide)
theorem sum_step {l : List Int} (h : AllB l) (k : Nat) (hk : k < 8) : IntKind.u64.wrap (((tkN l k : Nat) : Int) + (((l.getD k 0).toNat * 256 ^ k : Nat) : Int)) = ((tkN l (k + 1) : Nat) : Int) := by
  rw [← Int.natCast_add]
  apply small_wrap
  have h1 := tkN_lt h (k + 1)
  have h2 : (256 : Nat) ^ (k + 1) ≤ 256 ^ 8 := Nat.pow_le_pow_right (by decide) (by omega)
  exact Nat.lt_of_lt_of_le h1 h2
set_option maxHeartbeats 1000000 in
theorem rtake_short {l : List Int} (h : AllB l) (hyp : l.length ≤ 8) (hl : l.length ≤ 140737488355328) (v : Value) (w : World) (hv : Byt w v l) :
    Calls Try.prog 6 #[v] w fun e w' => e = .returned (.int .u64 ((tk l : Nat) : Int)) ∧ w' = w := by
  have HT : Hid (tk l = tkN l l.length) := by unfold Hid tk; rw [show min l.length 8 = l.length by omega]
  obtain ⟨a, cap, rfl, hc, _, hr⟩ := hv
  have HB : Hid (AllB l) := h
  have HR : Hid (l ≠ [] → ∃ g off, a = some ⟨g, off, none⟩ ∧ g < w.heap.size ∧ ∀ j, j < l.length → w.cell? ⟨g, off + j, none⟩ = some (.int .u8 (l.getD j 0))) := hr
  clear h hr
  have hs : (l.length : Int) ≤ 8 := by omega
  go_enter Try.func6, Try.ntmps6
  go_wp2
  go_loopw [3, 4] (fun v i wr => ∃ k : Nat, k ≤ l.length ∧ i = .int .i64 k ∧ v = .int .u64 ((tkN l k : Nat) : Int) ∧ wr = w) (fun _ i _ => l.length - (intOf i).toNat)
  case atStart => exact ⟨0, Nat.zero_le _, rfl, rfl, rfl⟩
  case round =>
    obtain ⟨k, hk, rfl, rfl, rfl⟩ := hrel
    by_cases hlt : k < l.length
    · obtain ⟨g, off, rfl, _, hcell⟩ := HR.out (by intro e; have := congrArg List.length e; simp only [List.length_nil] at this; omega)
      have hk8 : k < 8 := by omega
      have hkl : k < l.length := by omega
      have hkl2 : (k : Int) < (l.length : Int) := by omega
      have hk82 : (k : Int) < 8 := by omega
      have hce := hcell k hkl
      have hby := getD_byte HB.out k
      have HS' : Hid (IntKind.u64.wrap (((tkN l k : Nat) : Int) + (((l.getD k 0).toNat * 256 ^ k : Nat) : Int)) = ((tkN l (k + 1) : Nat) : Int)) := sum_step HB.out k hk8
      clear hcell
      obtain ⟨z, hz⟩ : ∃ z, z = (l.getD k 0).toNat := ⟨_, rfl⟩
      have hz2 : l.getD k 0 = (z : Int) := by omega
      rw [hz2] at hce hby
      have hz255 : z ≤ 255 := by omega
      have HZ : Hid (z = (l.getD k 0).toNat) := hz
      clear hz hz2 hby
      obtain ⟨M, hM⟩ : ∃ M, M = tkN l k := ⟨_, rfl⟩
      rw [← hM]
      have HM : Hid (M = tkN l k) := hM
      clear hM
      go_wp2
      go_loopw [5, 6] (fun v i wr' => ∃ q : Nat, q ≤ k ∧ i = .int .i64 q ∧ v = .int .u64 ((z * 256 ^ q : Nat) : Int) ∧ wr' = wr) (fun _ i _ => k - (intOf i).toNat)
      case atStart => exact ⟨0, Nat.zero_le _, rfl, by simp, rfl⟩
      case round =>
        obtain ⟨q, hq, rfl, rfl, rfl⟩ := hrel
        by_cases hlq : q < k
        · have hlq2 : (q : Int) < (k : Int) := by omega
          have HP : Hid (IntKind.u64.wrap (((z * 256 ^ q : Nat) : Int) * 256) = ((z * 256 ^ (q + 1) : Nat) : Int)) := mul_step z q hz255 (by omega)
          obtain ⟨R, hR⟩ : ∃ R, R = z * 256 ^ q := ⟨_, rfl⟩
          rw [← hR]
          have HRR : Hid (R = z * 256 ^ q) := hR
          clear hR
          go_wp2
          go_roundw
          case rel => exact ⟨q + 1, by omega, by go_num, by rw [← HP.out, ← HRR.out], trivial⟩
          case measure => simp [intOf]; omega
        · have hlq2 : (k : Int) ≤ (q : Int) := by omega
          have hqk : q = k := by omega
          subst hqk
          obtain ⟨R, hR⟩ : ∃ R, R = z * 256 ^ q := ⟨_, rfl⟩
          rw [← hR]
          have HRR : Hid (R = z * 256 ^ q) := hR
          clear hR
          go_wp2
          go_roundw
          case rel => exact ⟨q + 1, by omega, by go_num, by rw [← HS'.out, HM.out, HRR.out, HZ.out], trivial⟩
          case measure => simp [intOf]; omega
    · have hkn : k = l.length := by omega
      subst hkn
      go_wp2
      go_ret
      exact ⟨ret_int (by rw [HT.out]), rfl⟩
set_option maxHeartbeats 1000000 in
theorem rtake_long {l : List Int} (h : AllB l) (hyp : 8 < l.length) (hl : l.length ≤ 140737488355328) (v : Value) (w : World) (hv : Byt w v l) :
    Calls Try.prog 6 #[v] w fun e w' => e = .returned (.int .u64 ((tk l : Nat) : Int)) ∧ w' = w := by
  have HT : Hid (tk l = tkN l 8) := by unfold Hid tk; rw [show min l.length 8 = 8 by omega]
  obtain ⟨a, cap, rfl, hc, _, hr⟩ := hv
  have HB : Hid (AllB l) := h
  have HR : Hid (l ≠ [] → ∃ g off, a = some ⟨g, off, none⟩ ∧ g < w.heap.size ∧ ∀ j, j < l.length → w.cell? ⟨g, off + j, none⟩ = some (.int .u8 (l.getD j 0))) := hr
  clear h hr
  have hs : (8 : Int) < (l.length : Int) := by omega
  go_enter Try.func6, Try.ntmps6
  go_wp2
  go_loopw [3, 4] (fun v i wr => ∃ k : Nat, k ≤ 8 ∧ i = .int .i64 k ∧ v = .int .u64 ((tkN l k : Nat) : Int) ∧ wr = w) (fun _ i _ => 8 - (intOf i).toNat)
  case atStart => exact ⟨0, Nat.zero_le _, rfl, rfl, rfl⟩
  case round =>
    obtain ⟨k, hk, rfl, rfl, rfl⟩ := hrel
    by_cases hlt : k < 8
    · obtain ⟨g, off, rfl, _, hcell⟩ := HR.out (by intro e; have := congrArg List.length e; simp only [List.length_nil] at this; omega)
      have hk8 : k < 8 := by omega
      have hkl : k < l.length := by omega
      have hkl2 : (k : Int) < (l.length : Int) := by omega
      have hk82 : (k : Int) < 8 := by omega
      have hce := hcell k hkl
      have hby := getD_byte HB.out k
      have HS' : Hid (IntKind.u64.wrap (((tkN l k : Nat) : Int) + (((l.getD k 0).toNat * 256 ^ k : Nat) : Int)) = ((tkN l (k + 1) : Nat) : Int)) := sum_step HB.out k hk8
      clear hcell
      obtain ⟨z, hz⟩ : ∃ z, z = (l.getD k 0).toNat := ⟨_, rfl⟩
      have hz2 : l.getD k 0 = (z : Int) := by omega
      rw [hz2] at hce hby
      have hz255 : z ≤ 255 := by omega
      have HZ : Hid (z = (l.getD k 0).toNat) := hz
      clear hz hz2 hby
      obtain ⟨M, hM⟩ : ∃ M, M = tkN l k := ⟨_, rfl⟩
      rw [← hM]
      have HM : Hid (M = tkN l k) := hM
      clear hM
      go_wp2
      go_loopw [5, 6] (fun v i wr' => ∃ q : Nat, q ≤ k ∧ i = .int .i64 q ∧ v = .int .u64 ((z * 256 ^ q : Nat) : Int) ∧ wr' = wr) (fun _ i _ => k - (intOf i).toNat)
      case atStart => exact ⟨0, Nat.zero_le _, rfl, by simp, rfl⟩
      case round =>
        obtain ⟨q, hq, rfl, rfl, rfl⟩ := hrel
        by_cases hlq : q < k
        · have hlq2 : (q : Int) < (k : Int) := by omega
          have HP : Hid (IntKind.u64.wrap (((z * 256 ^ q : Nat) : Int) * 256) = ((z * 256 ^ (q + 1) : Nat) : Int)) := mul_step z q hz255 (by omega)
          obtain ⟨R, hR⟩ : ∃ R, R = z * 256 ^ q := ⟨_, rfl⟩
          rw [← hR]
          have HRR : Hid (R = z * 256 ^ q) := hR
          clear hR
          go_wp2
          go_roundw
          case rel => exact ⟨q + 1, by omega, by go_num, by rw [← HP.out, ← HRR.out], trivial⟩
          case measure => simp [intOf]; omega
        · have hlq2 : (k : Int) ≤ (q : Int) := by omega
          have hqk : q = k := by omega
          subst hqk
          obtain ⟨R, hR⟩ : ∃ R, R = z * 256 ^ q := ⟨_, rfl⟩
          rw [← hR]
          have HRR : Hid (R = z * 256 ^ q) := hR
          clear hR
          go_wp2
          go_roundw
          case rel => exact ⟨q + 1, by omega, by go_num, by rw [← HS'.out, HM.out, HRR.out, HZ.out], trivial⟩
          case measure => simp [intOf]; omega
    · have hkn : k = 8 := by omega
      subst hkn
      go_wp2
      go_ret
      exact ⟨ret_int (by rw [HT.out]), rfl⟩
theorem take_any {l : List Int} (h : AllB l) (hl : l.length ≤ 140737488355328) (v : Value) (w : World) (hv : Byt w v l) :
    Calls Try.prog 5 #[v] w fun e w' => e = .returned (.int .u64 ((tk l : Nat) : Int)) ∧ w' = w := by
  by_cases hs : l.length ≤ 8
  · exact take_short h hs hl v w hv
  · exact take_long h (by omega) hl v w hv
theorem rtake_any {l : List Int} (h : AllB l) (hl : l.length ≤ 140737488355328) (v : Value) (w : World) (hv : Byt w v l) :
    Calls Try.prog 6 #[v] w fun e w' => e = .returned (.int .u64 ((tk l : Nat) : Int)) ∧ w' = w := by
  by_cases hs : l.length ≤ 8
  · exact rtake_short h hs hl v w hv
  · exact rtake_long h (by omega) hl v w hv
end Go.Proofs.Ytjdlbkjkooeceab
