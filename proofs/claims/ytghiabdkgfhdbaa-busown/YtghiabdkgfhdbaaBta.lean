/-
  Take and Put of the program (arith), beside the bus.
-/
import Derived.Test.YtghiabdkgfhdbaaBya
namespace Go.Proofs.Ytghiabdkgfhdbaa
set_option linter.unusedVariables false
open Go.ChangeShapes Go.WideShapes Go.ChangeAt Go.RowKit
/-- The number whose lowest k bytes these are. -/
def tkN (l : List Int) : Nat → Nat
  | 0 => 0
  | k + 1 => tkN l k + (l.getD k 0).toNat * 256 ^ k
def tk (l : List Int) : Nat := tkN l (min l.length 8)
/-- The lowest n bytes of a number. -/
def ptL (N n : Nat) : List Int := (List.range n).map fun j => ((N / 256 ^ j % 256 : Nat) : Int)
theorem getD_byte {l : List Int} (h : AllB l) (j : Nat) : 0 ≤ l.getD j 0 ∧ l.getD j 0 ≤ 255 := by
  by_cases hj : j < l.length
  · have : l.getD j 0 ∈ l := by simp [hj]
    exact h _ this
  · have e : l.getD j 0 = 0 := by simp [List.getD, List.getElem?_eq_none (show l.length ≤ j by omega)]
    omega
theorem ptL_length (N n : Nat) : (ptL N n).length = n := by simp [ptL]
theorem ptL_get (N n j : Nat) (h : j < n) : (ptL N n).getD j 0 = ((N / 256 ^ j % 256 : Nat) : Int) := by simp [ptL, h]
theorem ptL_succ (N n : Nat) : ptL N (n + 1) = ptL N n ++ [((N / 256 ^ n % 256 : Nat) : Int)] := by simp [ptL, List.range_succ]
theorem ptL_all (N n : Nat) : AllB (ptL N n) := by
  intro x hx
  simp only [ptL, List.mem_map] at hx
  obtain ⟨j, _, rfl⟩ := hx
  omega
theorem tkN_lt {l : List Int} (h : AllB l) : ∀ k, tkN l k < 256 ^ k
  | 0 => by simp [tkN]
  | k + 1 => by
    have ih := tkN_lt h k
    have hb := getD_byte h k
    have h2 : (l.getD k 0).toNat * 256 ^ k ≤ 255 * 256 ^ k := Nat.mul_le_mul_right _ (by omega)
    simp only [tkN, Nat.pow_succ]
    omega
theorem tkN_pt (N n : Nat) : ∀ k, k ≤ n → tkN (ptL N n) k = N % 256 ^ k
  | 0, _ => by simp [tkN, Nat.mod_one]
  | k + 1, hk => by
    rw [tkN, tkN_pt N n k (by omega), ptL_get N n k (by omega), Int.toNat_natCast, Nat.pow_succ, Nat.mod_mul]
    rw [Nat.mul_comm]
theorem tk_pt8 (N n : Nat) (hn : n = 8) (h : N < 18446744073709551616) : tk (ptL N n) = N := by
  subst hn
  unfold tk
  rw [ptL_length, show min 8 8 = 8 from rfl, tkN_pt N 8 8 (Nat.le_refl _)]
  exact Nat.mod_eq_of_lt h
theorem pt_tkN {l : List Int} (h : AllB l) : ∀ n, ∀ j, j < n → ((tkN l n / 256 ^ j % 256 : Nat) : Int) = l.getD j 0
  | 0, j, hj => by omega
  | n + 1, j, hj => by
    have hb := getD_byte h n
    have hlt := tkN_lt h n
    rw [tkN]
    by_cases hjn : j = n
    · subst hjn
      rw [Nat.add_mul_div_right _ _ (Nat.pow_pos (by decide)), Nat.div_eq_of_lt hlt, Nat.zero_add, Nat.mod_eq_of_lt (by omega)]
      omega
    · rw [← pt_tkN h n j (by omega)]
      congr 1
      obtain ⟨d, rfl⟩ : ∃ d, n = j + 1 + d := ⟨n - (j + 1), by omega⟩
      rw [show (l.getD (j + 1 + d) 0).toNat * 256 ^ (j + 1 + d) = 256 ^ j * (256 * ((l.getD (j + 1 + d) 0).toNat * 256 ^ d)) by
        rw [Nat.pow_add, Nat.pow_add, Nat.pow_one]; simp only [Nat.mul_comm, Nat.mul_left_comm, Nat.mul_assoc]]
      rw [Nat.add_mul_div_left _ _ (Nat.pow_pos (by decide)), Nat.add_mul_mod_self_left]
theorem pt_tk {l : List Int} (h : AllB l) (hl : l.length ≤ 8) : ptL (tk l) l.length = l := by
  have e0 : tk l = tkN l l.length := by unfold tk; rw [Nat.min_eq_left hl]
  rw [e0]
  apply List.ext_getElem
  · rw [ptL_length]
  · intro j h1 h2
    have e1 := ptL_get (tkN l l.length) l.length j h2
    have e2 := pt_tkN h l.length j h2
    rw [e2] at e1
    simp only [List.getD, List.getElem?_eq_getElem h2, List.getElem?_eq_getElem h1, Option.getD_some] at e1
    exact e1
theorem tk_lt {l : List Int} (h : AllB l) : tk l < 18446744073709551616 := by
  have h1 := tkN_lt h (min l.length 8)
  have h2 : 256 ^ min l.length 8 ≤ 256 ^ 8 := Nat.pow_le_pow_right (by decide) (by omega)
  unfold tk
  exact Nat.lt_of_lt_of_le h1 h2
theorem nat64 {N : Nat} (h : N < 18446744073709551616) : ((N : Nat) : Int) = n64 (BitVec.ofNat 64 N) := by
  unfold n64; rw [BitVec.toNat_ofNat, Nat.mod_eq_of_lt h]
theorem pow8 (k : Nat) : (2 : Nat) ^ (8 * k) = 256 ^ k := by rw [Nat.pow_mul]
theorem take_step {l : List Int} (h : AllB l) (k : Nat) (hk : k < 8) :
    bits .or .u64 ((tkN l k : Nat) : Int) (IntKind.u64.wrap (l.getD k 0 * 2 ^ (8 * k))) = ((tkN l (k + 1) : Nat) : Int) := by
  have hb := getD_byte h k
  have hlt := tkN_lt h k
  have h64 : (256 : Nat) ^ (k + 1) ≤ 256 ^ 8 := Nat.pow_le_pow_right (by decide) (by omega)
  have hd : ((l.getD k 0).toNat : Int) = l.getD k 0 := by omega
  have hprod : (l.getD k 0).toNat * 256 ^ k ≤ 255 * 256 ^ k := Nat.mul_le_mul_right _ (by omega)
  have hp : (l.getD k 0).toNat * 256 ^ k < 18446744073709551616 := by
    have : 255 * 256 ^ k < 256 ^ (k + 1) := by rw [Nat.pow_succ]; have := Nat.pow_pos (n := k) (show 0 < 256 by decide); omega
    exact Nat.lt_of_le_of_lt hprod (Nat.lt_of_lt_of_le this h64)
  have hk1 : tkN l (k + 1) < 18446744073709551616 := Nat.lt_of_lt_of_le (tkN_lt h (k + 1)) h64
  have hk0 : tkN l k < 18446744073709551616 := Nat.lt_of_le_of_lt (by rw [tkN]; omega) hk1
  have e1 : l.getD k 0 * 2 ^ (8 * k) = (((l.getD k 0).toNat * 256 ^ k : Nat) : Int) := by
    rw [Int.natCast_mul, hd, ← pow8]; rfl
  rw [e1, nat64 hp, wrap_n64, ofInt_n64, nat64 hk0, n64_or, nat64 hk1]
  congr 1
  apply BitVec.eq_of_toNat_eq
  rw [BitVec.toNat_or, BitVec.toNat_ofNat, BitVec.toNat_ofNat, BitVec.toNat_ofNat, Nat.mod_eq_of_lt hk0, Nat.mod_eq_of_lt hp, Nat.mod_eq_of_lt hk1, tkN, Nat.or_comm, Nat.mul_comm, ← pow8, ← Nat.two_pow_add_eq_or_of_lt (by rw [pow8]; exact hlt)]
  omega

set_option maxHeartbeats 1000000 in
theorem take_short {l : List Int} (h : AllB l) (hyp : l.length ≤ 8) (hl : l.length ≤ 140737488355328) (v : Value) (w : World) (hv : Byt w v l) :
    Calls Try.prog 102 #[v] w fun e w' => e = .returned (.int .u64 ((tk l : Nat) : Int)) ∧ w' = w := by
  have HT : Hid (tk l = tkN l l.length) := by unfold Hid tk; rw [show min l.length 8 = l.length by omega]
  obtain ⟨a, cap, rfl, hc, _, hr⟩ := hv
  have HB : Hid (AllB l) := h
  have HR : Hid (l ≠ [] → ∃ g off, a = some ⟨g, off, none⟩ ∧ g < w.heap.size ∧ ∀ j, j < l.length → w.cell? ⟨g, off + j, none⟩ = some (.int .u8 (l.getD j 0))) := hr
  clear h hr
  have hs : (l.length : Int) ≤ 8 := by omega
  go_enter Try.func102, Try.ntmps102
  go_wp2
  go_loopw [3, 8] (fun v i wr => ∃ k : Nat, k ≤ l.length ∧ i = .int .i64 k ∧ v = .int .u64 ((tkN l k : Nat) : Int) ∧ wr = w) (fun _ i _ => l.length - (intOf i).toNat)
  case atStart => exact ⟨0, Nat.zero_le _, rfl, rfl, rfl⟩
  case round =>
    obtain ⟨k, hk, rfl, rfl, rfl⟩ := hrel
    by_cases hlt : k < l.length
    · obtain ⟨g, off, rfl, _, hcell⟩ := HR.out (by intro e; have := congrArg List.length e; simp only [List.length_nil] at this; omega)
      have hk8 : k < 8 := by omega
      have hkl : k < l.length := by omega
      have hkl2 : (k : Int) < (l.length : Int) := by omega
      have hk82 : (k : Int) < 8 := by omega
      have hce := hcell k hkl
      have hby := getD_byte HB.out k
      have HS := take_step HB.out k hk8
      have HS' : Hid (bits .or .u64 ((tkN l k : Nat) : Int) (IntKind.u64.wrap (l.getD k 0 * 2 ^ (8 * k))) = ((tkN l (k + 1) : Nat) : Int)) := HS
      clear HS hcell
      obtain ⟨z, hz⟩ : ∃ z, z = l.getD k 0 := ⟨_, rfl⟩
      rw [← hz] at hce hby
      have HZ : Hid (z = l.getD k 0) := hz
      clear hz
      obtain ⟨M, hM⟩ : ∃ M, M = tkN l k := ⟨_, rfl⟩
      rw [← hM]
      have HM : Hid (M = tkN l k) := hM
      clear hM
      go_wp2
      go_roundw
      case rel => exact ⟨k + 1, by omega, by go_num, by rw [← HS'.out, ← HZ.out, ← HM.out], trivial⟩
      case measure => simp [intOf]; omega
    · have hkn : k = l.length := by omega
      subst hkn
      go_wp2
      go_ret
      exact ⟨ret_int (by rw [HT.out]), rfl⟩
set_option maxHeartbeats 1000000 in
theorem take_long {l : List Int} (h : AllB l) (hyp : 8 < l.length) (hl : l.length ≤ 140737488355328) (v : Value) (w : World) (hv : Byt w v l) :
    Calls Try.prog 102 #[v] w fun e w' => e = .returned (.int .u64 ((tk l : Nat) : Int)) ∧ w' = w := by
  have HT : Hid (tk l = tkN l 8) := by unfold Hid tk; rw [show min l.length 8 = 8 by omega]
  obtain ⟨a, cap, rfl, hc, _, hr⟩ := hv
  have HB : Hid (AllB l) := h
  have HR : Hid (l ≠ [] → ∃ g off, a = some ⟨g, off, none⟩ ∧ g < w.heap.size ∧ ∀ j, j < l.length → w.cell? ⟨g, off + j, none⟩ = some (.int .u8 (l.getD j 0))) := hr
  clear h hr
  have hs : (8 : Int) < (l.length : Int) := by omega
  go_enter Try.func102, Try.ntmps102
  go_wp2
  go_loopw [3, 8] (fun v i wr => ∃ k : Nat, k ≤ 8 ∧ i = .int .i64 k ∧ v = .int .u64 ((tkN l k : Nat) : Int) ∧ wr = w) (fun _ i _ => 8 - (intOf i).toNat)
  case atStart => exact ⟨0, Nat.zero_le _, rfl, rfl, rfl⟩
  case round =>
    obtain ⟨k, hk, rfl, rfl, rfl⟩ := hrel
    by_cases hlt : k < 8
    · obtain ⟨g, off, rfl, _, hcell⟩ := HR.out (by intro e; have := congrArg List.length e; simp only [List.length_nil] at this; omega)
      have hk8 : k < 8 := by omega
      have hkl : k < l.length := by omega
      have hkl2 : (k : Int) < (l.length : Int) := by omega
      have hk82 : (k : Int) < 8 := by omega
      have hce := hcell k hkl
      have hby := getD_byte HB.out k
      have HS := take_step HB.out k hk8
      have HS' : Hid (bits .or .u64 ((tkN l k : Nat) : Int) (IntKind.u64.wrap (l.getD k 0 * 2 ^ (8 * k))) = ((tkN l (k + 1) : Nat) : Int)) := HS
      clear HS hcell
      obtain ⟨z, hz⟩ : ∃ z, z = l.getD k 0 := ⟨_, rfl⟩
      rw [← hz] at hce hby
      have HZ : Hid (z = l.getD k 0) := hz
      clear hz
      obtain ⟨M, hM⟩ : ∃ M, M = tkN l k := ⟨_, rfl⟩
      rw [← hM]
      have HM : Hid (M = tkN l k) := hM
      clear hM
      go_wp2
      go_roundw
      case rel => exact ⟨k + 1, by omega, by go_num, by rw [← HS'.out, ← HZ.out, ← HM.out], trivial⟩
      case measure => simp [intOf]; omega
    · have hkn : k = 8 := by omega
      subst hkn
      go_wp2
      go_ret
      exact ⟨ret_int (by rw [HT.out]), rfl⟩
theorem take_any {l : List Int} (h : AllB l) (hl : l.length ≤ 140737488355328) (v : Value) (w : World) (hv : Byt w v l) :
    Calls Try.prog 102 #[v] w fun e w' => e = .returned (.int .u64 ((tk l : Nat) : Int)) ∧ w' = w := by
  by_cases hs : l.length ≤ 8
  · exact take_short h hs hl v w hv
  · exact take_long h (by omega) hl v w hv
/-- A row half written. -/
def hw (N n k : Nat) : List Int := ptL N k ++ List.replicate (n - k) 0
theorem hw_length (N n k : Nat) (h : k ≤ n) : (hw N n k).length = n := by simp [hw, ptL_length]; omega
theorem hw_zero (N n : Nat) : hw N n 0 = List.replicate n 0 := by simp [hw, ptL]
theorem hw_full (N n : Nat) : hw N n n = ptL N n := by simp [hw]
theorem hw_set (N n k : Nat) (h : k < n) : (hw N n k).set k ((N / 256 ^ k % 256 : Nat) : Int) = hw N n (k + 1) := by
  unfold hw
  rw [List.set_append_right _ _ (by rw [ptL_length]; exact Nat.le_refl _), ptL_length, Nat.sub_self, ptL_succ, List.append_assoc]
  congr 1
  obtain ⟨d, hd⟩ : ∃ d, n - k = d + 1 := ⟨n - k - 1, by omega⟩
  rw [hd, List.replicate_succ, show n - (k + 1) = d by omega]
  rfl
theorem byte_of (x : BitVec 64) (k : Nat) : IntKind.u8.wrap (n64 x / 2 ^ (8 * k)) = ((x.toNat / 256 ^ k % 256 : Nat) : Int) := by
  unfold n64
  rw [show ((2 : Int) ^ (8 * k)) = (((2 : Nat) ^ (8 * k) : Nat) : Int) by simp, ← Int.natCast_ediv, pow8]
  generalize x.toNat / 256 ^ k = M
  simp [IntKind.wrap, IntKind.signed, IntKind.bits]
set_option maxHeartbeats 1000000 in
theorem put_mid (x : BitVec 64) (n : Nat) (h0 : 0 < n) (h8 : n ≤ 8) (w : World) :
    Calls Try.prog 103 #[.int .u64 (n64 x), .int .i64 (n : Int)] w fun e w' => e = .returned (.slice (some ⟨w.heap.size, 0, none⟩) n n) ∧ w'.ownsRow w.heap.size 5 1 (.slice (some ⟨w.heap.size, 0, none⟩) n n) n (bv (ptL x.toNat n)) ∧ Below w.heap.size w w' := by
  obtain ⟨i0, hi, hz0, hz1, hz2⟩ := info_parts info5
  have HI : Hid (Try.prog.info? 5 = some i0) := hi
  have HZ0 : Hid (i0.zero = some (.int .u8 0)) := hz0
  have HZ1 : Hid (i0.size = 1) := hz1
  have HZ2 : Hid (i0.bytes = 1) := hz2
  clear hi hz0 hz1 hz2
  have f1 : (n : Int) ≤ 8 := by omega
  have f2 : (0 : Int) < (n : Int) := by omega
  go_enter Try.func103, Try.ntmps103
  go_wp2_with (at_make; refine wpList_make_full _ (by rfl) _ _ 22 (by rfl) w.heap.size 5 i0 (.int .u8 0) 1 Try.underlying22 HI.out HZ0.out HZ1.out _ _ _ _ n (by rfl) (by rfl) (by omega) (by omega) (by rw [HZ2.out]; omega) (by unfold maxLen; omega) (Nat.le_refl _) ?_; intro w1 hown hgrow)
  have HO : Hid (w1.ownsRow w.heap.size 5 1 (.slice (some ⟨w.heap.size, 0, none⟩) n n) n (bv (hw x.toNat n 0))) := by
    have h := hown; rw [show (Value.int .u8 0).cells = #[Value.int .u8 0] from rfl, made_bv] at h; rw [hw_zero]; exact h
  have HB : Hid (Below w.heap.size w w1) := (Below.refl _ _).grown hgrow (Nat.le_refl _) (fun k hk => by cases hk)
  clear hown hgrow
  obtain ⟨B, hB⟩ : ∃ B, B = w.heap.size := ⟨_, rfl⟩
  have HB0 : Hid (B = w.heap.size) := hB
  clear hB
  rw [← HB0.out] at HO HB ⊢
  go_wp2
  go_loopw [13] (fun i wr => ∃ k : Nat, k ≤ n ∧ i = .int .i64 k ∧ Hid (wr.ownsRow B 5 1 (.slice (some ⟨B, 0, none⟩) n n) n (bv (hw x.toNat n k))) ∧ Hid (Below B w wr)) (fun i _ => n - (intOf i).toNat)
  case atStart => exact ⟨0, Nat.zero_le _, rfl, HO, HB⟩
  case round =>
    obtain ⟨k, hk, rfl, hown, hbel⟩ := hrel
    clear HO HB
    by_cases hlt : k < n
    · have hlt2 : (k : Int) < (n : Int) := by omega
      have hlt8 : (k : Int) < 8 := by omega
      have hce : wr.cell? ⟨B, k, none⟩ = some (.int .u8 ((hw x.toNat n k).getD k 0)) := by
        rw [hown.out.cellAt k (by omega), bv_get _ _ (by rw [hw_length _ _ _ (by omega)]; omega)]
      have hfr := hown.out.frozenAt k
      have HW : Hid (IntKind.u8.wrap (n64 x / 2 ^ (8 * k)) = ((x.toNat / 256 ^ k % 256 : Nat) : Int)) := byte_of x k
      obtain ⟨zz, hzz⟩ : ∃ zz, zz = (hw x.toNat n k).getD k 0 := ⟨_, rfl⟩
      rw [← hzz] at hce
      clear hzz
      go_wp2
      go_roundw
      case rel =>
        refine ⟨k + 1, by omega, by go_num, ?_, ?_⟩
        · have h1 := (hown.out.stored k (.int .u8 (IntKind.u8.wrap (n64 x / 2 ^ (8 * k))))).1
          rw [bv_set, HW.out, hw_set _ _ _ hlt] at h1
          unfold Hid
          rw [← HW.out] at h1
          exact h1
        · exact Below.setCell hbel.out (Nat.le_refl _) _
      case measure => simp [intOf]; omega
    · have hkn : k = n := by omega
      subst hkn
      rw [hw_full] at hown
      go_wp2
      go_ret
      have hB := HB0.out
      subst hB
      exact ⟨rfl, hown.out, hbel.out⟩
set_option maxHeartbeats 1000000 in
theorem put_lo (x : BitVec 64) (z : Int) (h0 : z ≤ 0) (w : World) :
    Calls Try.prog 103 #[.int .u64 (n64 x), .int .i64 z] w fun e w' => e = .returned (.slice (some ⟨w.heap.size, 0, none⟩) 0 0) ∧ w'.ownsRow w.heap.size 5 1 (.slice (some ⟨w.heap.size, 0, none⟩) 0 0) 0 (bv (ptL x.toNat 0)) ∧ Below w.heap.size w w' := by
  obtain ⟨i0, hi, hz0, hz1, hz2⟩ := info_parts info5
  have HI : Hid (Try.prog.info? 5 = some i0) := hi
  have HZ0 : Hid (i0.zero = some (.int .u8 0)) := hz0
  have HZ1 : Hid (i0.size = 1) := hz1
  have HZ2 : Hid (i0.bytes = 1) := hz2
  clear hi hz0 hz1 hz2
  have f1 : z < 8 := by omega
  go_enter Try.func103, Try.ntmps103
  go_wp2_with (at_make; refine wpList_make_full _ (by rfl) _ _ 22 (by rfl) w.heap.size 5 i0 (.int .u8 0) 1 Try.underlying22 HI.out HZ0.out HZ1.out _ _ _ _ 0 (by rfl) (by rfl) (by omega) (by omega) (by rw [HZ2.out]; omega) (by unfold maxLen; omega) (Nat.le_refl _) ?_; intro w1 hown hgrow)
  have HO : Hid (w1.ownsRow w.heap.size 5 1 (.slice (some ⟨w.heap.size, 0, none⟩) 0 0) 0 (bv (hw x.toNat 0 0))) := by
    have h := hown; rw [show (Value.int .u8 0).cells = #[Value.int .u8 0] from rfl, made_bv] at h; rw [hw_zero]; exact h
  have HB : Hid (Below w.heap.size w w1) := (Below.refl _ _).grown hgrow (Nat.le_refl _) (fun k hk => by cases hk)
  clear hown hgrow
  obtain ⟨B, hB⟩ : ∃ B, B = w.heap.size := ⟨_, rfl⟩
  have HB0 : Hid (B = w.heap.size) := hB
  clear hB
  rw [← HB0.out] at HO HB ⊢
  go_wp2
  go_loopw [13] (fun i wr => ∃ k : Nat, k ≤ 0 ∧ i = .int .i64 k ∧ Hid (wr.ownsRow B 5 1 (.slice (some ⟨B, 0, none⟩) 0 0) 0 (bv (hw x.toNat 0 k))) ∧ Hid (Below B w wr)) (fun i _ => 0 - (intOf i).toNat)
  case atStart => exact ⟨0, Nat.zero_le _, rfl, HO, HB⟩
  case round =>
    obtain ⟨k, hk, rfl, hown, hbel⟩ := hrel
    clear HO HB
    by_cases hlt : k < 0
    · exact absurd hlt (by omega)
    · have hkn : k = 0 := by omega
      subst hkn
      rw [hw_full] at hown
      go_wp2
      go_ret
      have hB := HB0.out
      subst hB
      exact ⟨rfl, hown.out, hbel.out⟩
set_option maxHeartbeats 1000000 in
theorem put_hi (x : BitVec 64) (z : Int) (h8 : 8 < z) (w : World) :
    Calls Try.prog 103 #[.int .u64 (n64 x), .int .i64 z] w fun e w' => e = .returned (.slice (some ⟨w.heap.size, 0, none⟩) 8 8) ∧ w'.ownsRow w.heap.size 5 1 (.slice (some ⟨w.heap.size, 0, none⟩) 8 8) 8 (bv (ptL x.toNat 8)) ∧ Below w.heap.size w w' := by
  obtain ⟨i0, hi, hz0, hz1, hz2⟩ := info_parts info5
  have HI : Hid (Try.prog.info? 5 = some i0) := hi
  have HZ0 : Hid (i0.zero = some (.int .u8 0)) := hz0
  have HZ1 : Hid (i0.size = 1) := hz1
  have HZ2 : Hid (i0.bytes = 1) := hz2
  clear hi hz0 hz1 hz2
  have f1 : (8 : Int) < z := by omega
  go_enter Try.func103, Try.ntmps103
  go_wp2_with (at_make; refine wpList_make_full _ (by rfl) _ _ 22 (by rfl) w.heap.size 5 i0 (.int .u8 0) 1 Try.underlying22 HI.out HZ0.out HZ1.out _ _ _ _ 8 (by rfl) (by rfl) (by omega) (by omega) (by rw [HZ2.out]; omega) (by unfold maxLen; omega) (Nat.le_refl _) ?_; intro w1 hown hgrow)
  have HO : Hid (w1.ownsRow w.heap.size 5 1 (.slice (some ⟨w.heap.size, 0, none⟩) 8 8) 8 (bv (hw x.toNat 8 0))) := by
    have h := hown; rw [show (Value.int .u8 0).cells = #[Value.int .u8 0] from rfl, made_bv] at h; rw [hw_zero]; exact h
  have HB : Hid (Below w.heap.size w w1) := (Below.refl _ _).grown hgrow (Nat.le_refl _) (fun k hk => by cases hk)
  clear hown hgrow
  obtain ⟨B, hB⟩ : ∃ B, B = w.heap.size := ⟨_, rfl⟩
  have HB0 : Hid (B = w.heap.size) := hB
  clear hB
  rw [← HB0.out] at HO HB ⊢
  go_wp2
  go_loopw [13] (fun i wr => ∃ k : Nat, k ≤ 8 ∧ i = .int .i64 k ∧ Hid (wr.ownsRow B 5 1 (.slice (some ⟨B, 0, none⟩) 8 8) 8 (bv (hw x.toNat 8 k))) ∧ Hid (Below B w wr)) (fun i _ => 8 - (intOf i).toNat)
  case atStart => exact ⟨0, Nat.zero_le _, rfl, HO, HB⟩
  case round =>
    obtain ⟨k, hk, rfl, hown, hbel⟩ := hrel
    clear HO HB
    by_cases hlt : k < 8
    · have hlt2 : (k : Int) < (8 : Int) := by omega
      have hlt8 : (k : Int) < 8 := by omega
      have hce : wr.cell? ⟨B, k, none⟩ = some (.int .u8 ((hw x.toNat 8 k).getD k 0)) := by
        rw [hown.out.cellAt k (by omega), bv_get _ _ (by rw [hw_length _ _ _ (by omega)]; omega)]
      have hfr := hown.out.frozenAt k
      have HW : Hid (IntKind.u8.wrap (n64 x / 2 ^ (8 * k)) = ((x.toNat / 256 ^ k % 256 : Nat) : Int)) := byte_of x k
      obtain ⟨zz, hzz⟩ : ∃ zz, zz = (hw x.toNat 8 k).getD k 0 := ⟨_, rfl⟩
      rw [← hzz] at hce
      clear hzz
      go_wp2
      go_roundw
      case rel =>
        refine ⟨k + 1, by omega, by go_num, ?_, ?_⟩
        · have h1 := (hown.out.stored k (.int .u8 (IntKind.u8.wrap (n64 x / 2 ^ (8 * k))))).1
          rw [bv_set, HW.out, hw_set _ _ _ hlt] at h1
          unfold Hid
          rw [← HW.out] at h1
          exact h1
        · exact Below.setCell hbel.out (Nat.le_refl _) _
      case measure => simp [intOf]; omega
    · have hkn : k = 8 := by omega
      subst hkn
      rw [hw_full] at hown
      go_wp2
      go_ret
      have hB := HB0.out
      subst hB
      exact ⟨rfl, hown.out, hbel.out⟩
/-- How many bytes Put gives. -/
def cl (z : Int) : Nat := (max 0 (min z 8)).toNat
theorem cl_le (z : Int) : cl z ≤ 8 := by unfold cl; omega
theorem put_any (x : BitVec 64) (z : Int) (w : World) :
    Calls Try.prog 103 #[.int .u64 (n64 x), .int .i64 z] w fun e w' => e = .returned (.slice (some ⟨w.heap.size, 0, none⟩) (cl z) (cl z)) ∧ w'.ownsRow w.heap.size 5 1 (.slice (some ⟨w.heap.size, 0, none⟩) (cl z) (cl z)) (cl z) (bv (ptL x.toNat (cl z))) ∧ Below w.heap.size w w' := by
  by_cases h0 : z ≤ 0
  · have e : cl z = 0 := by unfold cl; omega
    rw [e]; exact put_lo x z h0 w
  · by_cases h8 : 8 < z
    · have e : cl z = 8 := by unfold cl; omega
      rw [e]; exact put_hi x z h8 w
    · obtain ⟨n, rfl⟩ : ∃ n : Nat, z = (n : Int) := ⟨z.toNat, by omega⟩
      have e : cl (n : Int) = n := by unfold cl; omega
      rw [e]; exact put_mid x n (by omega) (by omega) w
end Go.Proofs.Ytghiabdkgfhdbaa
