import Derived.Test.YtddlmenfcbjoaaaGreatDoorK04
import Derived.Test.YtddlmenfcbjoaaaGreatDoorK06
import Derived.Laws.CopyOwn
import Derived.Test.YtddlmenfcbjoaaaGreatDoorK05
namespace Go.Proofs.YtddlmenfcbjoaaaGreatDoor
set_option linter.unusedVariables false
set_option maxRecDepth 100000
set_option maxHeartbeats 8000000
open Go.ChangeShapes Go.WideShapes Go.ChangeAt Go.RowKit _root_.Go.Proofs.Tryz
def tkN (l : List Int) : Nat → Nat
 | 0 => 0
 | k + 1 => tkN l k + (l.getD k 0).toNat * 256 ^ k
def tk (l : List Int) : Nat := tkN l (min l.length 8)
def ptL (N n : Nat) : List Int := (List.range n).map fun j => ((N / 256 ^ j % 256 : Nat) : Int)
theorem lL {l : List Int} (h : fQ l) (j : Nat) : 0 ≤ l.getD j 0 ∧ l.getD j 0 ≤ 255 := by
 by_cases hj : j < l.length
 ·have : l.getD j 0 ∈ l := by simp [hj]
  exact h _ this
 ·have e : l.getD j 0 = 0 := by simp [List.getD, List.getElem?_eq_none (show l.length ≤ j by omega)]
  omega
theorem bW (N n : Nat) : (ptL N n).length = n := by simp [ptL]
theorem QP (N n j : Nat) (h : j < n) : (ptL N n).getD j 0 = ((N / 256 ^ j % 256 : Nat) : Int) := by simp [ptL, h]
theorem KJ (N n : Nat) : ptL N (n + 1) = ptL N n ++ [((N / 256 ^ n % 256 : Nat) : Int)] := by simp [ptL, List.range_succ]
theorem pB (N n : Nat) : fQ (ptL N n) := by
 intro x hx
 simp only [ptL, List.mem_map] at hx
 obtain ⟨j, _, rfl⟩ := hx
 omega
theorem uH {l : List Int} (h : fQ l) : ∀ k, tkN l k < 256 ^ k
 | 0 => by simp [tkN]
 | k + 1 => by
  have ih := uH h k
  have hb := lL h k
  have h2 : (l.getD k 0).toNat * 256 ^ k ≤ 255 * 256 ^ k := Nat.mul_le_mul_right _ (by omega)
  simp only [tkN, Nat.pow_succ]
  omega
theorem yW (N n : Nat) : ∀ k, k ≤ n → tkN (ptL N n) k = N % 256 ^ k
 | 0, _ => by simp [tkN, Nat.mod_one]
 | k + 1, hk => by
  rw [tkN, yW N n k (by omega), QP N n k (by omega), Int.toNat_natCast, Nat.pow_succ, Nat.mod_mul]
  rw [Nat.mul_comm]
theorem uI (N n : Nat) (hn : n = 8) (h : N < 18446744073709551616) : tk (ptL N n) = N := by
 subst hn
 unfold tk
 rw [bW, show min 8 8 = 8 from rfl, yW N 8 8 (ZqE _)]
 exact ZqV h
theorem AQ {N : Nat} (h : N < 18446744073709551616) : ((N : Nat) : Int) = n64 (BitVec.ofNat 64 N) := by
 unfold n64; rw [ZqR, ZqV h]
theorem QK (k : Nat) : (2 : Nat) ^ (8 * k) = 256 ^ k := by rw [Nat.pow_mul]
theorem sX {l : List Int} (h : fQ l) (k : Nat) (hk : k < 8) :
  bits .or .u64 ((tkN l k : Nat) : Int) (IntKind.u64.wrap (l.getD k 0 * 2 ^ (8 * k))) = ((tkN l (k + 1) : Nat) : Int) := by
 have hb := lL h k
 have hlt := uH h k
 have h64 : (256 : Nat) ^ (k + 1) ≤ 256 ^ 8 := Nat.pow_le_pow_right (by decide) (by omega)
 have hd : ((l.getD k 0).toNat : Int) = l.getD k 0 := by omega
 have hprod : (l.getD k 0).toNat * 256 ^ k ≤ 255 * 256 ^ k := Nat.mul_le_mul_right _ (by omega)
 have hp : (l.getD k 0).toNat * 256 ^ k < 18446744073709551616 := by
  have : 255 * 256 ^ k < 256 ^ (k + 1) := by rw [Nat.pow_succ]; have := Nat.pow_pos (n := k) (show 0 < 256 by decide); omega
  exact Nat.lt_of_le_of_lt hprod (ZqS this h64)
 have hk1 : tkN l (k + 1) < 18446744073709551616 := ZqS (uH h (k + 1)) h64
 have hk0 : tkN l k < 18446744073709551616 := Nat.lt_of_le_of_lt (by rw [tkN]; omega) hk1
 have e1 : l.getD k 0 * 2 ^ (8 * k) = (((l.getD k 0).toNat * 256 ^ k : Nat) : Int) := by
  rw [Int.natCast_mul, hd, ← QK]; rfl
 rw [e1, AQ hp, dM, dB, AQ hk0, hU, AQ hk1]
 congr 1
 apply ZqT
 rw [BitVec.toNat_or, ZqR, ZqR, ZqR, ZqV hk0, ZqV hp, ZqV hk1, tkN, Nat.or_comm, Nat.mul_comm, ← QK, ← Nat.two_pow_add_eq_or_of_lt (by rw [QK]; exact hlt)]
 omega

theorem yU {l : List Int} (h : fQ l) (hyp : l.length ≤ 8) (hl : l.length ≤ 140737488355328) (v : Value) (w : World) (hv : Byt w v l) :
  Calls prog 262 #[v] w fun e w' => e = .returned (.int .u64 ((tk l : Nat) : Int)) ∧ w' = w := by
 have HT : Hid (tk l = tkN l l.length) := by unfold Hid tk; rw [show min l.length 8 = l.length by omega]
 obtain ⟨a, cap, rfl, hc, _, hr⟩ := hv
 have HB := hid h
 have HR := hid hr
 clear h hr
 have hs : (l.length : Int) ≤ 8 := by omega
 go_enter func262, ntmps262
 go_wp2
 go_loopw [3, 8] (fun v i wr => ∃ k : Nat, k ≤ l.length ∧ i = .int .i64 k ∧ v = .int .u64 ((tkN l k : Nat) : Int) ∧ wr = w) (fun _ i _ => l.length - (intOf i).toNat)
 case atStart => exact ⟨0, Nat.zero_le _, rfl, rfl, rfl⟩
 case round =>
  obtain ⟨k, hk, rfl, rfl, rfl⟩ := hrel
  by_cases hlt : k < l.length
  ·obtain ⟨g, off, rfl, _, hcell⟩ := HR.out (by intro e; have := congrArg List.length e; simp only [List.length_nil] at this; omega)
   have hk8 : k < 8 := by omega
   have hkl : k < l.length := by omega
   have hkl2 : (k : Int) < (l.length : Int) := by omega
   have hk82 : (k : Int) < 8 := by omega
   have hce := hcell k hkl
   have hby := lL HB.out k
   have HS := sX HB.out k hk8
   have HS' : Hid (bits .or .u64 ((tkN l k : Nat) : Int) (IntKind.u64.wrap (l.getD k 0 * 2 ^ (8 * k))) = ((tkN l (k + 1) : Nat) : Int)) := HS
   clear HS hcell
   obtain ⟨z, hz⟩ : ∃ z, z = l.getD k 0 := ⟨_, rfl⟩
   rw [← hz] at hce hby
   have HZ := hid hz
   clear hz
   obtain ⟨M, hM⟩ : ∃ M, M = tkN l k := ⟨_, rfl⟩
   rw [← hM]
   have HM := hid hM
   clear hM
   go_wp2
   go_roundw
   case rel => exact ⟨k + 1, by omega, by go_num, by rw [← HS'.out, ← HZ.out, ← HM.out], trivial⟩
   case measure => simp [intOf]; omega
  ·have hkn : k = l.length := by omega
   subst hkn
   go_wp2
   go_ret
   exact ⟨cH (by rw [HT.out]), rfl⟩
theorem DV {l : List Int} (h : fQ l) (hyp : 8 < l.length) (hl : l.length ≤ 140737488355328) (v : Value) (w : World) (hv : Byt w v l) :
  Calls prog 262 #[v] w fun e w' => e = .returned (.int .u64 ((tk l : Nat) : Int)) ∧ w' = w := by
 have HT : Hid (tk l = tkN l 8) := by unfold Hid tk; rw [show min l.length 8 = 8 by omega]
 obtain ⟨a, cap, rfl, hc, _, hr⟩ := hv
 have HB := hid h
 have HR := hid hr
 clear h hr
 have hs : (8 : Int) < (l.length : Int) := by omega
 go_enter func262, ntmps262
 go_wp2
 go_loopw [3, 8] (fun v i wr => ∃ k : Nat, k ≤ 8 ∧ i = .int .i64 k ∧ v = .int .u64 ((tkN l k : Nat) : Int) ∧ wr = w) (fun _ i _ => 8 - (intOf i).toNat)
 case atStart => exact ⟨0, Nat.zero_le _, rfl, rfl, rfl⟩
 case round =>
  obtain ⟨k, hk, rfl, rfl, rfl⟩ := hrel
  by_cases hlt : k < 8
  ·obtain ⟨g, off, rfl, _, hcell⟩ := HR.out (by intro e; have := congrArg List.length e; simp only [List.length_nil] at this; omega)
   have hk8 : k < 8 := by omega
   have hkl : k < l.length := by omega
   have hkl2 : (k : Int) < (l.length : Int) := by omega
   have hk82 : (k : Int) < 8 := by omega
   have hce := hcell k hkl
   have hby := lL HB.out k
   have HS := sX HB.out k hk8
   have HS' : Hid (bits .or .u64 ((tkN l k : Nat) : Int) (IntKind.u64.wrap (l.getD k 0 * 2 ^ (8 * k))) = ((tkN l (k + 1) : Nat) : Int)) := HS
   clear HS hcell
   obtain ⟨z, hz⟩ : ∃ z, z = l.getD k 0 := ⟨_, rfl⟩
   rw [← hz] at hce hby
   have HZ := hid hz
   clear hz
   obtain ⟨M, hM⟩ : ∃ M, M = tkN l k := ⟨_, rfl⟩
   rw [← hM]
   have HM := hid hM
   clear hM
   go_wp2
   go_roundw
   case rel => exact ⟨k + 1, by omega, by go_num, by rw [← HS'.out, ← HZ.out, ← HM.out], trivial⟩
   case measure => simp [intOf]; omega
  ·have hkn : k = 8 := by omega
   subst hkn
   go_wp2
   go_ret
   exact ⟨cH (by rw [HT.out]), rfl⟩
theorem qV {l : List Int} (h : fQ l) (hl : l.length ≤ 140737488355328) (v : Value) (w : World) (hv : Byt w v l) :
  Calls prog 262 #[v] w fun e w' => e = .returned (.int .u64 ((tk l : Nat) : Int)) ∧ w' = w := by
 by_cases hs : l.length ≤ 8
 ·exact yU h hs hl v w hv
 ·exact DV h (by omega) hl v w hv
def hw (N n k : Nat) : List Int := ptL N k ++ List.replicate (n - k) 0
theorem sN (N n k : Nat) (h : k ≤ n) : (hw N n k).length = n := by simp [hw, bW]; omega
theorem tT (N n : Nat) : hw N n 0 = List.replicate n 0 := by simp [hw, ptL]
theorem tR (N n : Nat) : hw N n n = ptL N n := by simp [hw]
theorem II (N n k : Nat) (h : k < n) : (hw N n k).set k ((N / 256 ^ k % 256 : Nat) : Int) = hw N n (k + 1) := by
 unfold hw
 rw [List.set_append_right _ _ (by rw [bW]; exact ZqE _), bW, Nat.sub_self, KJ, List.append_assoc]
 congr 1
 obtain ⟨d, hd⟩ : ∃ d, n - k = d + 1 := ⟨n - k - 1, by omega⟩
 rw [hd, List.replicate_succ, show n - (k + 1) = d by omega]
 rfl
theorem zV (x : BitVec 64) (k : Nat) : IntKind.u8.wrap (n64 x / 2 ^ (8 * k)) = ((x.toNat / 256 ^ k % 256 : Nat) : Int) := by
 unfold n64
 rw [show ((2 : Int) ^ (8 * k)) = (((2 : Nat) ^ (8 * k) : Nat) : Int) by simp, ← Int.natCast_ediv, QK]
 generalize x.toNat / 256 ^ k = M
 simp [IntKind.wrap, IntKind.signed, IntKind.bits]
theorem QQ (x : BitVec 64) (n : Nat) (h0 : 0 < n) (h8 : n ≤ 8) (w : World) :
  Calls prog 264 #[.int .u64 (n64 x), .int .i64 (n : Int)] w fun e w' => e = .returned (.slice (some ⟨w.heap.size, 0, none⟩) n n) ∧ w'.ownsRow w.heap.size 5 1 (.slice (some ⟨w.heap.size, 0, none⟩) n n) n (bv (ptL x.toNat n)) ∧ Below w.heap.size w w' := by
 obtain ⟨i0, hi, hz0, hz1, hz2⟩ := info_parts pZ
 have HI := hid hi
 have HZ0 := hid hz0
 have HZ1 := hid hz1
 have HZ2 := hid hz2
 clear hi hz0 hz1 hz2
 have f1 : (n : Int) ≤ 8 := by omega
 have f2 : (0 : Int) < (n : Int) := by omega
 go_enter func264, ntmps264
 go_wp2_with (at_make; refine wpList_make_full _ (by rfl) _ _ 32 (by rfl) w.heap.size 5 i0 (.int .u8 0) 1 underlying32 HI.out HZ0.out HZ1.out _ _ _ _ n (by rfl) (by rfl) (by omega) (by omega) (by rw [HZ2.out]; omega) (by unfold maxLen; omega) (ZqE _) ?_; intro w1 hown hgrow)
 have HO : Hid (w1.ownsRow w.heap.size 5 1 (.slice (some ⟨w.heap.size, 0, none⟩) n n) n (bv (hw x.toNat n 0))) := by
  have h := hown; rw [show (Value.int .u8 0).cells = #[Value.int .u8 0] from rfl, oZ] at h; rw [tT]; exact h
 have HB : Hid (Below w.heap.size w w1) := (ZqD _ _).grown hgrow (ZqE _) (fun k hk => by cases hk)
 clear hown hgrow
 obtain ⟨B, hB⟩ : ∃ B, B = w.heap.size := ⟨_, rfl⟩
 have HB0 := hid hB
 clear hB
 rw [← HB0.out] at HO HB ⊢
 go_wp2
 go_loopw [13] (fun i wr => ∃ k : Nat, k ≤ n ∧ i = .int .i64 k ∧ Hid (wr.ownsRow B 5 1 (.slice (some ⟨B, 0, none⟩) n n) n (bv (hw x.toNat n k))) ∧ Hid (Below B w wr)) (fun i _ => n - (intOf i).toNat)
 case atStart => exact ⟨0, Nat.zero_le _, rfl, HO, HB⟩
 case round =>
  obtain ⟨k, hk, rfl, hown, hbel⟩ := hrel
  clear HO HB
  by_cases hlt : k < n
  ·have hlt2 : (k : Int) < (n : Int) := by omega
   have hlt8 : (k : Int) < 8 := by omega
   have hce : wr.cell? ⟨B, k, none⟩ = some (.int .u8 ((hw x.toNat n k).getD k 0)) := by
    rw [hown.out.cellAt k (by omega), jU _ _ (by rw [sN _ _ _ (by omega)]; omega)]
   have hfr := hown.out.frozenAt k
   have HW : Hid (IntKind.u8.wrap (n64 x / 2 ^ (8 * k)) = ((x.toNat / 256 ^ k % 256 : Nat) : Int)) := zV x k
   obtain ⟨zz, hzz⟩ : ∃ zz, zz = (hw x.toNat n k).getD k 0 := ⟨_, rfl⟩
   rw [← hzz] at hce
   clear hzz
   go_wp2
   go_roundw
   case rel =>
    refine ⟨k + 1, by omega, by go_num, ?_, ?_⟩
    ·have h1 := (hown.out.stored k (.int .u8 (IntKind.u8.wrap (n64 x / 2 ^ (8 * k))))).1
     rw [FG, HW.out, II _ _ _ hlt] at h1
     unfold Hid
     rw [← HW.out] at h1
     exact h1
    ·exact Below.setCell hbel.out (ZqE _) _
   case measure => simp [intOf]; omega
  ·have hkn : k = n := by omega
   subst hkn
   rw [tR] at hown
   go_wp2
   go_ret
   have hB := HB0.out
   subst hB
   exact ⟨rfl, hown.out, hbel.out⟩
theorem ZE (x : BitVec 64) (z : Int) (h0 : z ≤ 0) (w : World) :
  Calls prog 264 #[.int .u64 (n64 x), .int .i64 z] w fun e w' => e = .returned (.slice (some ⟨w.heap.size, 0, none⟩) 0 0) ∧ w'.ownsRow w.heap.size 5 1 (.slice (some ⟨w.heap.size, 0, none⟩) 0 0) 0 (bv (ptL x.toNat 0)) ∧ Below w.heap.size w w' := by
 obtain ⟨i0, hi, hz0, hz1, hz2⟩ := info_parts pZ
 have HI := hid hi
 have HZ0 := hid hz0
 have HZ1 := hid hz1
 have HZ2 := hid hz2
 clear hi hz0 hz1 hz2
 have f1 : z < 8 := by omega
 go_enter func264, ntmps264
 go_wp2_with (at_make; refine wpList_make_full _ (by rfl) _ _ 32 (by rfl) w.heap.size 5 i0 (.int .u8 0) 1 underlying32 HI.out HZ0.out HZ1.out _ _ _ _ 0 (by rfl) (by rfl) (by omega) (by omega) (by rw [HZ2.out]; omega) (by unfold maxLen; omega) (ZqE _) ?_; intro w1 hown hgrow)
 have HO : Hid (w1.ownsRow w.heap.size 5 1 (.slice (some ⟨w.heap.size, 0, none⟩) 0 0) 0 (bv (hw x.toNat 0 0))) := by
  have h := hown; rw [show (Value.int .u8 0).cells = #[Value.int .u8 0] from rfl, oZ] at h; rw [tT]; exact h
 have HB : Hid (Below w.heap.size w w1) := (ZqD _ _).grown hgrow (ZqE _) (fun k hk => by cases hk)
 clear hown hgrow
 obtain ⟨B, hB⟩ : ∃ B, B = w.heap.size := ⟨_, rfl⟩
 have HB0 := hid hB
 clear hB
 rw [← HB0.out] at HO HB ⊢
 go_wp2
 go_loopw [13] (fun i wr => ∃ k : Nat, k ≤ 0 ∧ i = .int .i64 k ∧ Hid (wr.ownsRow B 5 1 (.slice (some ⟨B, 0, none⟩) 0 0) 0 (bv (hw x.toNat 0 k))) ∧ Hid (Below B w wr)) (fun i _ => 0 - (intOf i).toNat)
 case atStart => exact ⟨0, Nat.zero_le _, rfl, HO, HB⟩
 case round =>
  obtain ⟨k, hk, rfl, hown, hbel⟩ := hrel
  clear HO HB
  by_cases hlt : k < 0
  ·exact absurd hlt (by omega)
  ·have hkn : k = 0 := by omega
   subst hkn
   rw [tR] at hown
   go_wp2
   go_ret
   have hB := HB0.out
   subst hB
   exact ⟨rfl, hown.out, hbel.out⟩
theorem ZD (x : BitVec 64) (z : Int) (h8 : 8 < z) (w : World) :
  Calls prog 264 #[.int .u64 (n64 x), .int .i64 z] w fun e w' => e = .returned (.slice (some ⟨w.heap.size, 0, none⟩) 8 8) ∧ w'.ownsRow w.heap.size 5 1 (.slice (some ⟨w.heap.size, 0, none⟩) 8 8) 8 (bv (ptL x.toNat 8)) ∧ Below w.heap.size w w' := by
 obtain ⟨i0, hi, hz0, hz1, hz2⟩ := info_parts pZ
 have HI := hid hi
 have HZ0 := hid hz0
 have HZ1 := hid hz1
 have HZ2 := hid hz2
 clear hi hz0 hz1 hz2
 have f1 : (8 : Int) < z := by omega
 go_enter func264, ntmps264
 go_wp2_with (at_make; refine wpList_make_full _ (by rfl) _ _ 32 (by rfl) w.heap.size 5 i0 (.int .u8 0) 1 underlying32 HI.out HZ0.out HZ1.out _ _ _ _ 8 (by rfl) (by rfl) (by omega) (by omega) (by rw [HZ2.out]; omega) (by unfold maxLen; omega) (ZqE _) ?_; intro w1 hown hgrow)
 have HO : Hid (w1.ownsRow w.heap.size 5 1 (.slice (some ⟨w.heap.size, 0, none⟩) 8 8) 8 (bv (hw x.toNat 8 0))) := by
  have h := hown; rw [show (Value.int .u8 0).cells = #[Value.int .u8 0] from rfl, oZ] at h; rw [tT]; exact h
 have HB : Hid (Below w.heap.size w w1) := (ZqD _ _).grown hgrow (ZqE _) (fun k hk => by cases hk)
 clear hown hgrow
 obtain ⟨B, hB⟩ : ∃ B, B = w.heap.size := ⟨_, rfl⟩
 have HB0 := hid hB
 clear hB
 rw [← HB0.out] at HO HB ⊢
 go_wp2
 go_loopw [13] (fun i wr => ∃ k : Nat, k ≤ 8 ∧ i = .int .i64 k ∧ Hid (wr.ownsRow B 5 1 (.slice (some ⟨B, 0, none⟩) 8 8) 8 (bv (hw x.toNat 8 k))) ∧ Hid (Below B w wr)) (fun i _ => 8 - (intOf i).toNat)
 case atStart => exact ⟨0, Nat.zero_le _, rfl, HO, HB⟩
 case round =>
  obtain ⟨k, hk, rfl, hown, hbel⟩ := hrel
  clear HO HB
  by_cases hlt : k < 8
  ·have hlt2 : (k : Int) < (8 : Int) := by omega
   have hlt8 : (k : Int) < 8 := by omega
   have hce : wr.cell? ⟨B, k, none⟩ = some (.int .u8 ((hw x.toNat 8 k).getD k 0)) := by
    rw [hown.out.cellAt k (by omega), jU _ _ (by rw [sN _ _ _ (by omega)]; omega)]
   have hfr := hown.out.frozenAt k
   have HW : Hid (IntKind.u8.wrap (n64 x / 2 ^ (8 * k)) = ((x.toNat / 256 ^ k % 256 : Nat) : Int)) := zV x k
   obtain ⟨zz, hzz⟩ : ∃ zz, zz = (hw x.toNat 8 k).getD k 0 := ⟨_, rfl⟩
   rw [← hzz] at hce
   clear hzz
   go_wp2
   go_roundw
   case rel =>
    refine ⟨k + 1, by omega, by go_num, ?_, ?_⟩
    ·have h1 := (hown.out.stored k (.int .u8 (IntKind.u8.wrap (n64 x / 2 ^ (8 * k))))).1
     rw [FG, HW.out, II _ _ _ hlt] at h1
     unfold Hid
     rw [← HW.out] at h1
     exact h1
    ·exact Below.setCell hbel.out (ZqE _) _
   case measure => simp [intOf]; omega
  ·have hkn : k = 8 := by omega
   subst hkn
   rw [tR] at hown
   go_wp2
   go_ret
   have hB := HB0.out
   subst hB
   exact ⟨rfl, hown.out, hbel.out⟩
def cl (z : Int) : Nat := (max 0 (min z 8)).toNat
theorem pC (x : BitVec 64) (z : Int) (w : World) :
  Calls prog 264 #[.int .u64 (n64 x), .int .i64 z] w fun e w' => e = .returned (.slice (some ⟨w.heap.size, 0, none⟩) (cl z) (cl z)) ∧ w'.ownsRow w.heap.size 5 1 (.slice (some ⟨w.heap.size, 0, none⟩) (cl z) (cl z)) (cl z) (bv (ptL x.toNat (cl z))) ∧ Below w.heap.size w w' := by
 by_cases h0 : z ≤ 0
 ·have e : cl z = 0 := by unfold cl; omega
  rw [e]; exact ZE x z h0 w
 ·by_cases h8 : 8 < z
  ·have e : cl z = 8 := by unfold cl; omega
   rw [e]; exact ZD x z h8 w
  ·obtain ⟨n, rfl⟩ : ∃ n : Nat, z = (n : Int) := ⟨z.toNat, by omega⟩
   have e : cl (n : Int) = n := by unfold cl; omega
   rw [e]; exact QQ x n (by omega) (by omega) w
end Go.Proofs.YtddlmenfcbjoaaaGreatDoor
namespace Go.Proofs.YtddlmenfcbjoaaaGreatDoor
set_option linter.unusedVariables false
set_option maxRecDepth 100000
set_option maxHeartbeats 8000000
open Go.ChangeShapes Go.WideShapes Go.ChangeAt Go.RowKit Go.Deep _root_.Go.Proofs.Tryz
theorem lK (l : List Int) (k : Nat) (cs : List Int) : bv (splice l k cs) = splice (bv l) k (bv cs) := by simp [bv, splice, List.map_take, List.map_drop]
theorem yP {α : Type} (l r cs : List α) (k : Nat) (h : k + cs.length ≤ l.length) : splice (l ++ r) k cs = splice l k cs ++ r := by
 unfold splice
 rw [List.take_append_of_le_length (by omega), List.drop_append_of_le_length (by omega)]
 simp
theorem yI {w : World} {B g n cap : Nat} {l : List Int} (h : w.ownsRow B 5 1 (.slice (some ⟨g, 0, none⟩) n cap) n (bv l)) :
  ∃ cur : Array Value, w.heap[g]? = some (.cells cur 5 (0, 0)) ∧ n ≤ cur.size ∧ ∀ (k : Nat) (cs : List Int), k + cs.length ≤ n →
   (w.setRow g (cur.toList.take k ++ (bv cs ++ cur.toList.drop (k + (bv cs).length))).toArray).ownsRow B 5 1 (.slice (some ⟨g, 0, none⟩) n cap) n (bv (splice l k cs)) := by
 have hlen := h.1
 rw [bY, Nat.mul_one] at hlen
 rcases h.2 with ⟨h', _⟩ | ⟨g', cap', cur, h', hB, hg, hn, hm, hs, ht⟩
 ·simp at h'
 ·simp only [Value.slice.injEq, Option.some.injEq, Addr.mk.injEq, and_true, true_and] at h'
  obtain ⟨rfl, rfl⟩ := h'
  refine ⟨cur, hg, by omega, fun k cs hk => ?_⟩
  rw [Nat.mul_one] at ht hs
  have hc : cur.toList = bv l ++ cur.toList.drop n := by rw [← ht, List.take_append_drop]
  have hl2 : (bv l).length = n := by rw [bY]; exact hlen
  have e : cur.toList.take k ++ (bv cs ++ cur.toList.drop (k + (bv cs).length)) = bv (splice l k cs) ++ cur.toList.drop n := by
   rw [lK, ← yP _ _ _ _ (by rw [bY, hl2]; exact hk), ← hc]; rfl
  have hsl : (splice l k cs).length = n := by rw [length_splice _ _ _ (by omega)]; exact hlen
  rw [e]
  refine ⟨by rw [bY, hsl, Nat.mul_one], .inr ⟨g, cap, _, rfl, hB, ZqW w g _ _ _ _ hg, hn, hm, ?_, ?_⟩⟩
  ·have hcs : cur.toList.length = cap := by rw [Array.length_toList]; exact hs
   simp [bY, hsl]
   omega
  ·rw [Nat.mul_one]
   simp [bY, hsl]
theorem zU {w : World} {B g n cap : Nat} {l : List Int} (h : w.ownsRow B 5 1 (.slice (some ⟨g, 0, none⟩) n cap) n (bv l)) (k s : Nat) (hk : k + s ≤ n) : Byt w (.slice (some ⟨g, k, none⟩) s (cap - k)) ((l.drop k).take s) := by
 have hlen := h.1
 rw [bY, Nat.mul_one] at hlen
 have hcap : n ≤ cap := by
  rcases h.2 with ⟨h', _⟩ | ⟨g', cap', cur, h', _, _, hn, _⟩
  ·simp at h'
  ·simp only [Value.slice.injEq] at h'; obtain ⟨_, _, rfl⟩ := h'; exact hn
 have hl2 : ((l.drop k).take s).length = s := by simp; omega
 refine ⟨some ⟨g, k, none⟩, cap - k, by rw [hl2], by omega, (fun e => by cases e), fun _ => ⟨g, k, rfl, (h.lt g rfl).2, fun j hj => ?_⟩⟩
 rw [hl2] at hj
 rw [h.cellAt (k + j) (by omega), jU _ _ (by omega)]
 simp [List.getD, hj, List.getElem?_drop]
theorem TZ (m g n cap k s : Nat) (w : World) (hm : w.cell? ⟨m, 0, none⟩ = some (.slice (some ⟨g, 0, none⟩) n cap)) (hn : n ≤ 65536) (hc : n ≤ cap) (hk : k + s ≤ n) (hs : 0 < s) :
  Calls prog 263 #[.pointer (some ⟨m, 0, none⟩), .int .u64 (2147483648 + (k : Int)), .int .i64 s] w fun e w' => e = .returned (.slice (some ⟨g, k, none⟩) s (cap - k)) ∧ w' = w := by
 have e1 : (2147483648 + (k : Int) - 2147483648) = k := by omega
 have e2 : IntKind.u64.wrap (k : Int) = k := bI (by omega) (by omega)
 go_enter func263, ntmps263
 have hne : ¬ cap = k := by omega
 go_wp2
 go_ret
 refine ⟨?_, rfl⟩
 show Ending.returned (.slice (some ⟨g, k, none⟩) (k + s - k) (cap - k)) = _
 rw [Nat.add_sub_cancel_left]
theorem AS {w : World} {B g n cap : Nat} {xs : List Value} (h : w.ownsRow B 5 1 (.slice (some ⟨g, 0, none⟩) n cap) n xs) : n ≤ cap := by
 rcases h.2 with ⟨h', _⟩ | ⟨g', cap', cur, h', _, _, hn, _⟩
 ·simp at h'
 ·simp only [Value.slice.injEq] at h'; obtain ⟨_, _, rfl⟩ := h'; exact hn
theorem DA {B m g n cap k s : Nat} {l : List Int} (w : World) (hm : w.cell? ⟨m, 0, none⟩ = some (.slice (some ⟨g, 0, none⟩) n cap)) (ho : w.ownsRow B 5 1 (.slice (some ⟨g, 0, none⟩) n cap) n (bv l)) (hb : fQ l) (hn : n ≤ 65536) (hk : k + s ≤ n) (hs : 0 < s) :
  Calls prog 260 #[.pointer (some ⟨m, 0, none⟩), .int .u64 (2147483648 + (k : Int)), .int .i64 s] w fun e w' => e = .returned (.int .u64 ((tk ((l.drop k).take s) : Nat) : Int)) ∧ w' = w := by
 have hR := TZ m g n cap k s w hm hn (AS ho) hk hs
 have hB : fQ ((l.drop k).take s) := fun x hx => hb x (List.mem_of_mem_drop (List.mem_of_mem_take hx))
 have hT := qV hB (by simp; omega) _ w (zU ho k s hk)
 generalize ((tk ((l.drop k).take s) : Nat) : Int) = t at hT ⊢
 clear ho hb hB
 go_enter func260, ntmps260
 go_wp2_with (first | (go_at_call 263; refine hR.mono ?_; rintro e w1 ⟨rfl, hw⟩; have hw2 := hw.symm; subst hw2) | (go_at_call 262; refine hT.mono ?_; rintro e w1 ⟨rfl, hw⟩; have hw2 := hw.symm; subst hw2))
 go_ret
 exact ⟨rfl, rfl⟩
theorem FS {s : Nat} (h : s ≤ 8) : cl s = s := by unfold cl; omega
theorem xY {B m g n cap k s : Nat} {l : List Int} (x : BitVec 64) (w : World) (hm : w.cell? ⟨m, 0, none⟩ = some (.slice (some ⟨g, 0, none⟩) n cap)) (ho : w.ownsRow B 5 1 (.slice (some ⟨g, 0, none⟩) n cap) n (bv l)) (hn : n ≤ 65536) (hk : k + s ≤ n) (hs : 0 < s) (h8 : s ≤ 8) :
  Calls prog 261 #[.pointer (some ⟨m, 0, none⟩), .int .u64 (2147483648 + (k : Int)), .int .i64 s, .int .u64 (n64 x)] w fun e w' => e = .returned (.tuple #[]) ∧ w'.ownsRow B 5 1 (.slice (some ⟨g, 0, none⟩) n cap) n (bv (splice l k (ptL x.toNat s))) ∧ Exc (· = g) w w' := by
 have hR := TZ m g n cap k s w hm hn (AS ho) hk hs
 have hP := pC x s w
 rw [FS h8] at hP
 have HO := hid ho
 have HS : Hid (∀ w1, Below w.heap.size w w1 → ∃ cur : Array Value, w1.heap[g]? = some (.cells cur 5 (0, 0)) ∧ n ≤ cur.size ∧ (w1.setRow g (cur.toList.take k ++ (bv (ptL x.toNat s) ++ cur.toList.drop (k + (bv (ptL x.toNat s)).length))).toArray).ownsRow B 5 1 (.slice (some ⟨g, 0, none⟩) n cap) n (bv (splice l k (ptL x.toNat s)))) := fun w1 hb => by
  obtain ⟨cur, h1, h2, h3⟩ := yI (fL ho hb rfl)
  exact ⟨cur, h1, h2, h3 k _ (by rw [bW]; exact hk)⟩
 clear ho
 obtain ⟨cs, hcs⟩ : ∃ cs, cs = bv (ptL x.toNat s) := ⟨_, rfl⟩
 have hcl : cs.length = s := by rw [hcs, bY, bW]
 have hone : ∀ v ∈ cs, v.oneCell' = true := by intro v hv; rw [hcs] at hv; simp [bv] at hv; obtain ⟨q, _, rfl⟩ := hv; rfl
 rw [← hcs] at hP HS
 have HF : Hid (bv (splice l k (ptL x.toNat s)) = bv (splice l k (ptL x.toNat s))) := rfl
 generalize bv (splice l k (ptL x.toNat s)) = fin at HS ⊢
 have HL := hid hcl
 have HN1 := hid hone
 have HK := hid hk
 have u8size : (prog.info? 5).map (·.size) = some 1 := by kernel_rfl
 clear hcs hcl hone HF
 go_enter func261, ntmps261
 go_wp2_with (first | (go_at_call 263; refine hR.mono ?_; rintro e w1 ⟨rfl, hw⟩; have hw2 := hw.symm; subst hw2) | (go_at_call 264; refine hP.mono ?_; rintro e w1 ⟨rfl, hown, hbel⟩; obtain ⟨cur, hc1, hc2, hc3⟩ := HS.out w1 hbel; have HC1 : Hid _ := hc1; have HC2 : Hid _ := hc2; have HC3 : Hid _ := hc3; have HW1 : Hid _ := hown; have HB1 : Hid _ := hbel; clear hc1 hc2 hc3 hown hbel) | (refine wpList_copy_own (by rfl) _ _ _ _ (by rfl) 5 underlying32 u8size g k s (cap - k) ⟨w.heap.size, 0, none⟩ s s (by rfl) (by rfl) cur 5 HC1.out cs (by rw [HL.out]; exact (Nat.min_self s).symm) (fun j v hj => World.ownsRow.cells (v := .slice (some ⟨w.heap.size, 0, none⟩) s s) HW1.out rfl j v hj) (by rw [HL.out]; exact ZqO HK.out HC2.out) HN1.out ?_))
 go_end0
 refine ⟨rfl, HC3.out, ?_⟩
 exact (Exc.of_below HB1.out rfl).trans ⟨rfl, rfl, rfl, by simp [World.setRow], fun k hk hs => setRow_other w1 _ _ k hs⟩
theorem oO (a : Addr) (w : World) : (method 361 79 (.pointer (some a)) "anvil/bus.load").run prog w = .ok (260, .pointer (some a)) w := by kernel_rfl
theorem nN (a : Addr) (w : World) : (method 361 79 (.pointer (some a)) "anvil/bus.store").run prog w = .ok (261, .pointer (some a)) w := by kernel_rfl
theorem pW {n : Nat} {a z : Int} (h : jC n a z = true) : ∃ k s : Nat, a = 2147483648 + (k : Int) ∧ z = s ∧ k + s ≤ n ∧ 0 < s ∧ s ≤ 8 := by
 simp only [jC, hld, Bool.and_eq_true, Bool.or_eq_true, beq_iff_eq, decide_eq_true_eq] at h
 refine ⟨(a - 2147483648).toNat, z.toNat, ?_, ?_, ?_, ?_, ?_⟩ <;> omega
theorem pU {n : Nat} {a z : Int} (h : fnd n a z = 0) : jC n a z = true := by
 unfold fnd at h
 split at h
 ·assumption
 ·exfalso
  repeat' (split at h)
  all_goals omega
theorem PB.ram {B : Nat} {L : Lay} {S : St} {w : World} (h : PB B L S w) (h0 : 0 < S.ram.length) : ∃ g cap, L.vr = .slice (some ⟨g, 0, none⟩) S.ram.length cap := Go.Joins.ownsRow_form h.wr h0
theorem CX {B : Nat} {L : Lay} {S : St} (w : World) (h : PB B L S w) (hn : S.ram.length ≤ 65536) (a z : Int) (ha : 0 ≤ a ∧ a ≤ 18446744073709551615) (hz : -9223372036854775808 ≤ z ∧ z ≤ 9223372036854775807) (hf : fnd S.ram.length a z = 6) :
  Calls prog 178 #[.pointer (some ⟨L.b, 0, none⟩), .int .u64 a, .int .i64 z] w fun e w' => e = .returned (.tuple #[.int .u64 0, .bool false]) ∧ Below w.heap.size w w' := by
 have HF := fI w h hn a z ha hz
 rw [hf] at HF
 simp only [show kW L 6 = .nilIface from rfl, show decide (6 < 6) = false from rfl] at HF
 clear h hf
 go_enter func178, ntmps178
 go_wp2_with (go_at_call 220; refine HF.mono ?_; rintro e w1 ⟨rfl, hb1⟩)
 go_ret2
 exact ⟨rfl, hb1⟩
theorem yR {B : Nat} {L : Lay} {S : St} (w : World) (h : PB B L S w) (hn : S.ram.length ≤ 65536) (a z v : Int) (ha : 0 ≤ a ∧ a ≤ 18446744073709551615) (hz : -9223372036854775808 ≤ z ∧ z ≤ 9223372036854775807) (hf : fnd S.ram.length a z = 6) :
  Calls prog 179 #[.pointer (some ⟨L.b, 0, none⟩), .int .u64 a, .int .i64 z, .int .u64 v] w fun e w' => e = .returned (.bool false) ∧ Below w.heap.size w w' := by
 have HF := fI w h hn a z ha hz
 rw [hf] at HF
 simp only [show kW L 6 = .nilIface from rfl, show decide (6 < 6) = false from rfl] at HF
 clear h hf
 go_enter func179, ntmps179
 go_wp2_with (go_at_call 220; refine HF.mono ?_; rintro e w1 ⟨rfl, hb1⟩)
 go_ret
 exact ⟨rfl, hb1⟩
theorem IU {B : Nat} {L : Lay} {S : St} (w : World) (h : PB B L S w) (hr : fQ S.ram) (hn : S.ram.length ≤ 65536) (k s : Nat) (hk : k + s ≤ S.ram.length) (hs : 0 < s) (h8 : s ≤ 8) (hf : fnd S.ram.length (2147483648 + (k : Int)) s = 0) :
  Calls prog 178 #[.pointer (some ⟨L.b, 0, none⟩), .int .u64 (2147483648 + (k : Int)), .int .i64 s] w fun e w' => e = .returned (.tuple #[.int .u64 ((tk ((S.ram.drop k).take s) : Nat) : Int), .bool true]) ∧ Below w.heap.size w w' := by
 have HF := fI w h hn (2147483648 + (k : Int)) s (by omega) (by omega)
 rw [hf] at HF
 simp only [show kW L 0 = .iface 79 (.pointer (some ⟨L.m, 0, none⟩)) from rfl, show decide (0 < 6) = true from rfl] at HF
 obtain ⟨g, cap, er⟩ := h.ram (by omega)
 have HL : Hid (∀ w1, Below w.heap.size w w1 → Calls prog 260 #[.pointer (some ⟨L.m, 0, none⟩), .int .u64 (2147483648 + (k : Int)), .int .i64 s] w1 fun e w' => e = .returned (.int .u64 ((tk ((S.ram.drop k).take s) : Nat) : Int)) ∧ w' = w1) := fun w1 hb => by
  have h1 := h.later hb
  exact DA w1 (by rw [← er]; exact h1.cl.m0) (by rw [← er]; exact h1.wr) hr hn hk hs
 have hmt := oO
 generalize ((tk ((S.ram.drop k).take s) : Nat) : Int) = t at HL ⊢
 clear h hf er
 go_enter func178, ntmps178
 go_wp2_with (first | (go_at_call 220; refine HF.mono ?_; rintro e w1 ⟨rfl, hb1⟩) | (go_at_call 260; refine (HL.out _ hb1).mono ?_; rintro e w2 ⟨rfl, hw⟩; have hw2 := hw.symm; subst hw2))
 go_ret2
 exact ⟨rfl, hb1⟩
def St.put (S : St) (k s N : Nat) : St := { S with ram := splice S.ram k (ptL N s) }
theorem PB.store {B : Nat} {L : Lay} {S : St} {w w' : World} {g : Nat} (h : PB B L S w) (hg : L.vr.ownBlock = some g) (l : List Int) (hl : l.length = S.ram.length) (ho : w'.ownsRow B 5 1 L.vr S.ram.length (bv l)) (he : Exc (· = g) w w') : PB B L { S with ram := l } w' := by
 have hk := Go.Lib.ownsRow_kind h.wr g hg
 obtain ⟨c, fz, hrow⟩ := hk
 have k : ∀ {b : Nat} {C : Array Value} {T : TypeId}, T ≠ 5 → w.heap[b]? = some (.cells C T (0, 0)) → w'.heap[b]? = some (.cells C T (0, 0)) := fun {b C T} hT hb => by
  rw [he.block b (Array.getElem?_eq_some_iff.1 hb).1 (fun e => ?_)]
  ·exact hb
  ·subst e
   rw [hrow] at hb
   simp at hb
   exact hT hb.2.1.symm
 have ki : w'.ownsRow B 5 1 L.vi S.inp.length (bv S.inp) := eJ h.wi he (fun q hq e => h.ri g hg (by rw [hq, e]))
 have ko : w'.ownsRow B 5 1 L.vo S.out.length (bv S.out) := eJ h.wo he (fun q hq e => h.ro g hg (by rw [hq, e]))
 exact ⟨k (by decide) h.hb, k (by decide) h.hm, k (by decide) h.hp, k (by decide) h.hs, k (by decide) h.hc, k (by decide) h.hk, k (by decide) h.hu, k (by decide) h.hq, by show w'.ownsRow B _ 1 L.vr l.length (bv l); rw [hl]; exact ho, ki, ko, h.ri, h.ro, h.io, h.lb, h.lm, h.lp, h.ls, h.lc, h.lk, h.lu, h.lq⟩
def Lay.own (L : Lay) (k : Nat) : Prop := k = L.b ∨ k = L.m ∨ k = L.pw ∨ k = L.sw ∨ k = L.cm ∨ k = L.ck ∨ k = L.u ∨ k = L.q ∨ L.vr.ownBlock = some k ∨ L.vi.ownBlock = some k ∨ L.vo.ownBlock = some k
theorem DS {B : Nat} {L : Lay} {S : St} (x : BitVec 64) (w : World) (h : PB B L S w) (hn : S.ram.length ≤ 65536) (k s : Nat) (hk : k + s ≤ S.ram.length) (hs : 0 < s) (h8 : s ≤ 8) (hf : fnd S.ram.length (2147483648 + (k : Int)) s = 0) :
  Calls prog 179 #[.pointer (some ⟨L.b, 0, none⟩), .int .u64 (2147483648 + (k : Int)), .int .i64 s, .int .u64 (n64 x)] w fun e w' => e = .returned (.bool true) ∧ PB B L (S.put k s x.toNat) w' ∧ Exc L.own w w' := by
 have HF := fI w h hn (2147483648 + (k : Int)) s (by omega) (by omega)
 rw [hf] at HF
 simp only [show kW L 0 = .iface 79 (.pointer (some ⟨L.m, 0, none⟩)) from rfl, show decide (0 < 6) = true from rfl] at HF
 obtain ⟨g, cap, er⟩ := h.ram (by omega)
 have HL : Hid (∀ w1, Below w.heap.size w w1 → Calls prog 261 #[.pointer (some ⟨L.m, 0, none⟩), .int .u64 (2147483648 + (k : Int)), .int .i64 s, .int .u64 (n64 x)] w1 fun e w' => e = .returned (.tuple #[]) ∧ PB B L (S.put k s x.toNat) w' ∧ Exc L.own w w') := fun w1 hb => by
  have h1 := h.later hb
  refine (xY x w1 (by rw [← er]; exact h1.cl.m0) (by rw [← er]; exact h1.wr) hn hk hs h8).mono ?_
  rintro e w' ⟨rfl, ho, he⟩
  have hg : L.vr.ownBlock = some g := by rw [er]; rfl
  refine ⟨rfl, h1.store hg _ (length_splice _ _ _ (by rw [bW]; exact hk)) (by rw [er]; exact ho) he, ?_⟩
  exact (Exc.of_below hb rfl).trans (he.mono (fun q hq => by rw [hq]; unfold Lay.own; simp [hg]))
 have hmt := nN
 clear h hf er
 go_enter func179, ntmps179
 go_wp2_with (first | (go_at_call 220; refine HF.mono ?_; rintro e w1 ⟨rfl, hb1⟩) | (go_at_call 261; refine (HL.out _ hb1).mono ?_; rintro e w2 ⟨rfl, hpb, hex⟩; have HP : Hid _ := hpb; have HX : Hid _ := hex; clear hpb hex))
 go_ret
 exact ⟨rfl, HP.out, HX.out⟩
end Go.Proofs.YtddlmenfcbjoaaaGreatDoor
namespace Go.Proofs.YtddlmenfcbjoaaaGreatDoor
set_option linter.unusedVariables false
set_option maxRecDepth 100000
set_option maxHeartbeats 8000000
open Go.ChangeShapes Go.WideShapes Go.ChangeAt Go.RowKit Go.Deep Go.MuLone _root_.Go.Proofs.Tryz
theorem dJ (w : World) : ∀ k, Below w.heap.size w (w.drewN k)
 | 0 => ZqD _ _
 | k + 1 => (dJ w k).drew
theorem yV {B : Nat} {L : Lay} {S : St} (w : World) (h : PB B L S w) : Calls prog 16 #[.pointer (some ⟨L.b, 0, none⟩)] w fun e w' => e = .returned (.int .u64 S.time) ∧ Below w.heap.size w w' := by
 have b4 := h.cl.b4
 have k1 := h.cl.k1
 clear h
 go_enter func16, ntmps16
 go_wp2
 go_ret
 exact ⟨rfl, ZqD _ _⟩
theorem SO {B q : Nat} {vi : Value} {inp : List Int} {ov : Bool} (w : World) (hq : w.heap[q]? = some (.cells #[.int .i32 0, .int .u32 0, vi, .bool ov] 113 (0, 0))) (hv : w.ownsRow B 5 1 vi inp.length (bv inp)) :
  Calls prog 54 #[.pointer (some ⟨q, 0, none⟩)] w fun e w' => e = .returned (.bool (decide (0 < inp.length))) ∧ Below w.heap.size w w' := by
 have c0 : w.cell? ⟨q, 0, none⟩ = some (.int .i32 0) := ZqP w q 0 _ _ _ hq
 have f0 : w.frozen? ⟨q, 0, none⟩ = false := frozen_of_row w q 0 _ _ hq
 obtain ⟨w1, hw1⟩ : ∃ w1, w1 = w.setCell ⟨q, 0, none⟩ (.int .i32 1) := ⟨_, rfl⟩
 have hq1 : w1.heap[q]? = some (.cells #[.int .i32 1, .int .u32 0, vi, .bool ov] 113 (0, 0)) := by rw [hw1]; exact ZqQ w q 0 _ _ _ hq
 have d2 : w1.cell? ⟨q, 2, none⟩ = some vi := ZqP w1 q 2 _ _ _ hq1
 have HLK := (lock_free kQ ⟨q, 0, none⟩ w c0 f0)
 rw [← hw1] at HLK
 have HQ1 := hid hq1
 have HQ := hid hq
 have HW1 := hid hw1
 obtain ⟨ai, ci, ei, _⟩ := Byt.of_own hv
 obtain ⟨b, hb⟩ : ∃ b, b = decide (0 < inp.length) := ⟨_, rfl⟩
 rw [← hb]
 have HE := hid hb
 subst ei
 clear hw1 hq1 hq hv hb
 go_enter_defers func54, ntmps54
 go_wp2_with (go_at_call 46; refine HLK.mono ?_; rintro e w' ⟨rfl, rfl⟩)
 refine leaves_cons (f := 47) (args := #[.pointer (some ⟨q, 0, none⟩)]) (by simp) (by simp [go_sem]) ?_
 refine (unlock_deferred kQ ⟨q, 0, none⟩ .returning _ ?_ ?_).mono ?_
 ·exact ZqP w' q 0 _ _ _ HQ1.out
 ·exact frozen_of_row w' q 0 _ _ HQ1.out
 rintro e u' w3 ⟨rfl, rfl, rfl⟩
 exact ⟨_, results_tmp rfl _ _ _, by rw [HE.out]; rfl, mC HQ.out rfl HW1.out (ZqD _ _) rfl⟩
theorem and1 : ∀ n : Nat, n < 256 → bits .and .u8 (n : Int) 1 = ((n % 2 : Nat) : Int) := by decide +kernel
def kY (S : St) : Bool := (S.ier % 2 == 1) && decide (0 < S.inp.length)
theorem IS {B : Nat} {L : Lay} {S : St} (w : World) (h : PB B L S w) (hi : 0 ≤ S.ier ∧ S.ier ≤ 255) : Calls prog 37 #[.pointer (some ⟨L.u, 0, none⟩)] w fun e w' => e = .returned (.bool (kY S)) ∧ Below w.heap.size w w' := by
 have u0 := h.cl.u0
 have u4 := h.cl.u4
 have HWT := SO w h.hq h.wi
 have e1 : bits .and .u8 S.ier 1 = S.ier % 2 := by
  have := and1 S.ier.toNat (by omega)
  rw [Int.toNat_of_nonneg hi.1] at this
  rw [this]; omega
 obtain ⟨b, hb⟩ : ∃ b, b = kY S := ⟨_, rfl⟩
 rw [← hb]
 have HE : Hid (b = ((S.ier % 2 == 1) && decide (0 < S.inp.length))) := hb
 generalize decide (0 < S.inp.length) = q at HWT HE
 clear hb h
 rcases Bool.eq_false_or_eq_true (S.ier % 2 != 0) with h1 | h1
 ·have HX : Hid (b = q) := by unfold Hid; rw [HE.out, show (S.ier % 2 == 1) = true by simp at h1 ⊢; omega]; rfl
  go_enter func37, ntmps37
  go_wp2_with (go_at_call 54; refine HWT.mono ?_; rintro e w1 ⟨rfl, hb1⟩)
  go_ret
  exact ⟨by cases HX.out; rfl, hb1⟩
 ·have HX : Hid (b = false) := by unfold Hid; rw [HE.out, show (S.ier % 2 == 1) = false by simp at h1 ⊢; omega]; rfl
  go_enter func37, ntmps37
  go_wp2
  go_ret
  exact ⟨by cases HX.out; rfl, ZqD _ _⟩
def vV (S : St) : Int := (if S.msip = 1 ∨ S.soft = true then 8 else 0) + (if S.cmp ≤ S.time then 128 else 0) + (if S.ext = true ∨ kY S = true then 2048 else 0)
theorem IX {B : Nat} {L : Lay} {S : St} (w : World) (h : PB B L S w) (hi : 0 ≤ S.ier ∧ S.ier ≤ 255) : Calls prog 15 #[.pointer (some ⟨L.b, 0, none⟩)] w fun e w' => e = .returned (.int .u64 (vV S)) ∧ Below w.heap.size w w' := by
 have P1 : Hid (∀ k, PB B L S (w.drewN k)) := fun k => h.later (dJ w k)
 have c := h.cl
 have b2 := c.b2
 have b3 := c.b3
 have b4 := c.b4
 have b5 := c.b5
 have b6 := c.b6
 have b7 := c.b7
 have s0 := c.s0
 have c1 := c.c1
 have k1 := c.k1
 have HLN : Hid (∀ k, Calls prog 37 #[.pointer (some ⟨L.u, 0, none⟩)] (w.drewN k) fun e w' => e = .returned (.bool (kY S)) ∧ Below w.heap.size w w') := fun k => (IS (w.drewN k) (P1.out k) hi).mono fun e w' ⟨h1, h2⟩ => ⟨h1, (dJ w k).trans (h2.mono (dJ w k).size)⟩
 obtain ⟨m, hm⟩ : ∃ m, m = vV S := ⟨_, rfl⟩
 rw [← hm]
 have HM : Hid (m = (if S.msip = 1 ∨ S.soft = true then 8 else 0) + (if S.cmp ≤ S.time then 128 else 0) + (if S.ext = true ∨ kY S = true then 2048 else 0)) := hm
 generalize kY S = ln at HLN HM
 clear hm h c P1 hi
 by_cases hms : S.msip = 1
 ·have e1 : (S.msip == 1) = true := by simpa using hms
  have hA : (S.msip = 1 ∨ S.soft = true) := .inl hms
  by_cases hT : S.cmp ≤ S.time
  ·cases hex : S.ext with
   | true =>
    rw [hex] at b6
    have hL : (S.ext = true ∨ ln = true) := .inl hex
    have HX : Hid (m = 2184) := by unfold Hid; rw [HM.out]; simp [hA, hT, hL]
    clear HM
    go_enter func15, ntmps15
    go_wp2
    go_quiet (fail)
    go_wp2
    go_ret
    exact ⟨by rw [HX.out]; rfl, dJ w _⟩
   | false =>
    rw [hex] at b6
    cases hln : ln with
    | true =>
     rw [hln] at HLN
     have hL : (S.ext = true ∨ ln = true) := .inr hln
     have HX : Hid (m = 2184) := by unfold Hid; rw [HM.out]; simp [hA, hT, hL]
     clear HM
     go_enter func15, ntmps15
     go_wp2
     go_quiet (fail)
     go_wp2_with (go_at_call 37; refine (HLN.out _).mono ?_; rintro e w1 ⟨rfl, hb1⟩)
     go_ret
     exact ⟨by rw [HX.out]; rfl, hb1⟩
    | false =>
     rw [hln] at HLN
     have hL : ¬ (S.ext = true ∨ ln = true) := by rw [hex, hln]; simp
     have HX : Hid (m = 136) := by unfold Hid; rw [HM.out]; simp [hA, hT, hL]
     clear HM
     go_enter func15, ntmps15
     go_wp2
     go_quiet (fail)
     go_wp2_with (go_at_call 37; refine (HLN.out _).mono ?_; rintro e w1 ⟨rfl, hb1⟩)
     go_ret
     exact ⟨by rw [HX.out]; rfl, hb1⟩
  ·have hT2 : S.time < S.cmp := by omega
   cases hex : S.ext with
   | true =>
    rw [hex] at b6
    have hL : (S.ext = true ∨ ln = true) := .inl hex
    have HX : Hid (m = 2056) := by unfold Hid; rw [HM.out]; simp [hA, hT, hL]
    clear HM
    go_enter func15, ntmps15
    go_wp2
    go_quiet (fail)
    go_wp2
    go_ret
    exact ⟨by rw [HX.out]; rfl, dJ w _⟩
   | false =>
    rw [hex] at b6
    cases hln : ln with
    | true =>
     rw [hln] at HLN
     have hL : (S.ext = true ∨ ln = true) := .inr hln
     have HX : Hid (m = 2056) := by unfold Hid; rw [HM.out]; simp [hA, hT, hL]
     clear HM
     go_enter func15, ntmps15
     go_wp2
     go_quiet (fail)
     go_wp2_with (go_at_call 37; refine (HLN.out _).mono ?_; rintro e w1 ⟨rfl, hb1⟩)
     go_ret
     exact ⟨by rw [HX.out]; rfl, hb1⟩
    | false =>
     rw [hln] at HLN
     have hL : ¬ (S.ext = true ∨ ln = true) := by rw [hex, hln]; simp
     have HX : Hid (m = 8) := by unfold Hid; rw [HM.out]; simp [hA, hT, hL]
     clear HM
     go_enter func15, ntmps15
     go_wp2
     go_quiet (fail)
     go_wp2_with (go_at_call 37; refine (HLN.out _).mono ?_; rintro e w1 ⟨rfl, hb1⟩)
     go_ret
     exact ⟨by rw [HX.out]; rfl, hb1⟩
 ·have e1 : (S.msip == 1) = false := by simpa using hms
  cases hsf : S.soft with
  | true =>
   rw [hsf] at b7
   have hA : (S.msip = 1 ∨ S.soft = true) := .inr hsf
   by_cases hT : S.cmp ≤ S.time
   ·cases hex : S.ext with
    | true =>
     rw [hex] at b6
     have hL : (S.ext = true ∨ ln = true) := .inl hex
     have HX : Hid (m = 2184) := by unfold Hid; rw [HM.out]; simp [hA, hT, hL]
     clear HM
     go_enter func15, ntmps15
     go_wp2
     go_quiet (fail)
     go_wp2
     go_ret
     exact ⟨by rw [HX.out]; rfl, dJ w _⟩
    | false =>
     rw [hex] at b6
     cases hln : ln with
     | true =>
      rw [hln] at HLN
      have hL : (S.ext = true ∨ ln = true) := .inr hln
      have HX : Hid (m = 2184) := by unfold Hid; rw [HM.out]; simp [hA, hT, hL]
      clear HM
      go_enter func15, ntmps15
      go_wp2
      go_quiet (fail)
      go_wp2_with (go_at_call 37; refine (HLN.out _).mono ?_; rintro e w1 ⟨rfl, hb1⟩)
      go_ret
      exact ⟨by rw [HX.out]; rfl, hb1⟩
     | false =>
      rw [hln] at HLN
      have hL : ¬ (S.ext = true ∨ ln = true) := by rw [hex, hln]; simp
      have HX : Hid (m = 136) := by unfold Hid; rw [HM.out]; simp [hA, hT, hL]
      clear HM
      go_enter func15, ntmps15
      go_wp2
      go_quiet (fail)
      go_wp2_with (go_at_call 37; refine (HLN.out _).mono ?_; rintro e w1 ⟨rfl, hb1⟩)
      go_ret
      exact ⟨by rw [HX.out]; rfl, hb1⟩
   ·have hT2 : S.time < S.cmp := by omega
    cases hex : S.ext with
    | true =>
     rw [hex] at b6
     have hL : (S.ext = true ∨ ln = true) := .inl hex
     have HX : Hid (m = 2056) := by unfold Hid; rw [HM.out]; simp [hA, hT, hL]
     clear HM
     go_enter func15, ntmps15
     go_wp2
     go_quiet (fail)
     go_wp2
     go_ret
     exact ⟨by rw [HX.out]; rfl, dJ w _⟩
    | false =>
     rw [hex] at b6
     cases hln : ln with
     | true =>
      rw [hln] at HLN
      have hL : (S.ext = true ∨ ln = true) := .inr hln
      have HX : Hid (m = 2056) := by unfold Hid; rw [HM.out]; simp [hA, hT, hL]
      clear HM
      go_enter func15, ntmps15
      go_wp2
      go_quiet (fail)
      go_wp2_with (go_at_call 37; refine (HLN.out _).mono ?_; rintro e w1 ⟨rfl, hb1⟩)
      go_ret
      exact ⟨by rw [HX.out]; rfl, hb1⟩
     | false =>
      rw [hln] at HLN
      have hL : ¬ (S.ext = true ∨ ln = true) := by rw [hex, hln]; simp
      have HX : Hid (m = 8) := by unfold Hid; rw [HM.out]; simp [hA, hT, hL]
      clear HM
      go_enter func15, ntmps15
      go_wp2
      go_quiet (fail)
      go_wp2_with (go_at_call 37; refine (HLN.out _).mono ?_; rintro e w1 ⟨rfl, hb1⟩)
      go_ret
      exact ⟨by rw [HX.out]; rfl, hb1⟩
  | false =>
   rw [hsf] at b7
   have hA : ¬ (S.msip = 1 ∨ S.soft = true) := by rw [hsf]; simp [hms]
   by_cases hT : S.cmp ≤ S.time
   ·cases hex : S.ext with
    | true =>
     rw [hex] at b6
     have hL : (S.ext = true ∨ ln = true) := .inl hex
     have HX : Hid (m = 2176) := by unfold Hid; rw [HM.out]; simp [hA, hT, hL]
     clear HM
     go_enter func15, ntmps15
     go_wp2
     go_quiet (fail)
     go_wp2
     go_ret
     exact ⟨by rw [HX.out]; rfl, dJ w _⟩
    | false =>
     rw [hex] at b6
     cases hln : ln with
     | true =>
      rw [hln] at HLN
      have hL : (S.ext = true ∨ ln = true) := .inr hln
      have HX : Hid (m = 2176) := by unfold Hid; rw [HM.out]; simp [hA, hT, hL]
      clear HM
      go_enter func15, ntmps15
      go_wp2
      go_quiet (fail)
      go_wp2_with (go_at_call 37; refine (HLN.out _).mono ?_; rintro e w1 ⟨rfl, hb1⟩)
      go_ret
      exact ⟨by rw [HX.out]; rfl, hb1⟩
     | false =>
      rw [hln] at HLN
      have hL : ¬ (S.ext = true ∨ ln = true) := by rw [hex, hln]; simp
      have HX : Hid (m = 128) := by unfold Hid; rw [HM.out]; simp [hA, hT, hL]
      clear HM
      go_enter func15, ntmps15
      go_wp2
      go_quiet (fail)
      go_wp2_with (go_at_call 37; refine (HLN.out _).mono ?_; rintro e w1 ⟨rfl, hb1⟩)
      go_ret
      exact ⟨by rw [HX.out]; rfl, hb1⟩
   ·have hT2 : S.time < S.cmp := by omega
    cases hex : S.ext with
    | true =>
     rw [hex] at b6
     have hL : (S.ext = true ∨ ln = true) := .inl hex
     have HX : Hid (m = 2048) := by unfold Hid; rw [HM.out]; simp [hA, hT, hL]
     clear HM
     go_enter func15, ntmps15
     go_wp2
     go_quiet (fail)
     go_wp2
     go_ret
     exact ⟨by rw [HX.out]; rfl, dJ w _⟩
    | false =>
     rw [hex] at b6
     cases hln : ln with
     | true =>
      rw [hln] at HLN
      have hL : (S.ext = true ∨ ln = true) := .inr hln
      have HX : Hid (m = 2048) := by unfold Hid; rw [HM.out]; simp [hA, hT, hL]
      clear HM
      go_enter func15, ntmps15
      go_wp2
      go_quiet (fail)
      go_wp2_with (go_at_call 37; refine (HLN.out _).mono ?_; rintro e w1 ⟨rfl, hb1⟩)
      go_ret
      exact ⟨by rw [HX.out]; rfl, hb1⟩
     | false =>
      rw [hln] at HLN
      have hL : ¬ (S.ext = true ∨ ln = true) := by rw [hex, hln]; simp
      have HX : Hid (m = 0) := by unfold Hid; rw [HM.out]; simp [hA, hT, hL]
      clear HM
      go_enter func15, ntmps15
      go_wp2
      go_quiet (fail)
      go_wp2_with (go_at_call 37; refine (HLN.out _).mono ?_; rintro e w1 ⟨rfl, hb1⟩)
      go_ret
      exact ⟨by rw [HX.out]; rfl, hb1⟩
theorem PI {B : Nat} {L : Lay} {S : St} (w : World) (h : PB B L S w) (hn : S.ram.length ≤ 65536) (a z : Int) (ha : 0 ≤ a ∧ a ≤ 18446744073709551615) (hz : -9223372036854775808 ≤ z ∧ z ≤ 9223372036854775807) :
  Calls prog 231 #[.pointer (some ⟨L.b, 0, none⟩), .int .u64 a, .int .i64 z] w fun e w' => e = .returned (.bool (decide (1 ≤ z) && hld S.ram.length a z)) ∧ Below w.heap.size w w' := by
 have b0 := h.cl.b0
 obtain ⟨ar, cr, er, _⟩ := Byt.of_own h.wr
 have HH := mV L.m S.ram.length cr ar a z w (by rw [← er]; exact h.cl.m0) hn ha hz
 obtain ⟨b, hb⟩ : ∃ b, b = (decide (1 ≤ z) && hld S.ram.length a z) := ⟨_, rfl⟩
 rw [← hb]
 have HE := hid hb
 generalize hld S.ram.length a z = q at HH HE
 clear h er hb
 rcases Int.lt_or_le z 1 with h1 | h1
 ·have HX : Hid (b = false) := by unfold Hid; rw [HE.out, show decide (1 ≤ z) = false from decide_eq_false (by omega)]; rfl
  go_enter func231, ntmps231
  go_wp2
  go_ret
  exact ⟨by cases HX.out; rfl, ZqD _ _⟩
 ·have HX : Hid (b = q) := by unfold Hid; rw [HE.out, show decide (1 ≤ z) = true from decide_eq_true h1]; rfl
  go_enter func231, ntmps231
  go_wp2_with (go_at_call 238; refine HH.mono ?_; rintro e w1 ⟨rfl, hb1⟩)
  go_ret
  exact ⟨by cases HX.out; rfl, hb1⟩
theorem can_c {B : Nat} {L : Lay} {S : St} (w : World) (h : PB B L S w) (hn : S.ram.length ≤ 65536) (a z k : Int) (ha : 0 ≤ a ∧ a ≤ 18446744073709551615) (hz : -9223372036854775808 ≤ z ∧ z ≤ 9223372036854775807) :
  Calls prog 232 #[.pointer (some ⟨L.b, 0, none⟩), .int .u64 a, .int .i64 z, .int .i64 k] w fun e w' => e = .returned (.bool (decide (1 ≤ k ∧ k ≤ 3) && decide (fnd S.ram.length a z < 6))) ∧ Below w.heap.size w w' := by
 have HF := fI w h hn a z ha hz
 obtain ⟨b, hb⟩ : ∃ b, b = (decide (1 ≤ k ∧ k ≤ 3) && decide (fnd S.ram.length a z < 6)) := ⟨_, rfl⟩
 rw [← hb]
 have HE := hid hb
 generalize fnd S.ram.length a z = q at HF HE
 generalize kW L q = dv at HF
 clear h hb
 by_cases h1 : k = 1
 ·subst h1
  have HX : Hid (b = decide (q < 6)) := by unfold Hid; rw [HE.out]; simp
  clear HE
  go_enter func232, ntmps232
  go_wp2_with (go_at_call 220; refine HF.mono ?_; rintro e w1 ⟨rfl, hb1⟩)
  go_ret
  exact ⟨by cases HX.out; rfl, hb1⟩
 by_cases h2 : k = 2
 ·subst h2
  have HX : Hid (b = decide (q < 6)) := by unfold Hid; rw [HE.out]; simp
  clear HE
  go_enter func232, ntmps232
  go_wp2_with (go_at_call 220; refine HF.mono ?_; rintro e w1 ⟨rfl, hb1⟩)
  go_ret
  exact ⟨by cases HX.out; rfl, hb1⟩
 by_cases h3 : k = 3
 ·subst h3
  have HX : Hid (b = decide (q < 6)) := by unfold Hid; rw [HE.out]; simp
  clear HE
  go_enter func232, ntmps232
  go_wp2_with (go_at_call 220; refine HF.mono ?_; rintro e w1 ⟨rfl, hb1⟩)
  go_ret
  exact ⟨by cases HX.out; rfl, hb1⟩
 have e1 : (k == 1) = false := by simpa using h1
 have e2 : (k == 2) = false := by simpa using h2
 have e3 : (k == 3) = false := by simpa using h3
 have HX : Hid (b = false) := by unfold Hid; rw [HE.out, show decide (1 ≤ k ∧ k ≤ 3) = false from decide_eq_false (by omega)]; rfl
 clear HE
 go_enter func232, ntmps232
 go_wp2
 go_ret
 exact ⟨by cases HX.out; rfl, ZqD _ _⟩
end Go.Proofs.YtddlmenfcbjoaaaGreatDoor
namespace Go.Proofs.YtddlmenfcbjoaaaGreatDoor
set_option linter.unusedVariables false
set_option maxRecDepth 100000
set_option maxHeartbeats 8000000
open Go.ChangeShapes Go.WideShapes Go.ChangeAt Go.RowKit Go.Deep _root_.Go.Proofs.Tryz
theorem aI {w : World} {b q j : Nat} {C D : Array Value} {T U : TypeId} {v : Value} (hb : w.heap[b]? = some (.cells C T (0, 0))) (hq : w.heap[q]? = some (.cells D U (0, 0))) (hne : T ≠ U ∨ C[0]? ≠ D[0]?) : (w.setCell ⟨b, j, none⟩ v).heap[q]? = some (.cells D U (0, 0)) := by
 rw [Below.heap_setCell w ⟨b, j, none⟩ v q (fun e => ?_)]
 ·exact hq
 ·have e' : q = b := e
  subst e'
  rw [hb] at hq
  cases hq
  rcases hne with h | h <;> exact h rfl
theorem aP {w : World} {B b j n : Nat} {C : Array Value} {T : TypeId} {v u : Value} {xs : List Value} (ho : w.ownsRow B 5 1 u n xs) (hb : w.heap[b]? = some (.cells C T (0, 0))) (hT : T ≠ 5) : (w.setCell ⟨b, j, none⟩ v).ownsRow B 5 1 u n xs :=
 ownsRow_setCell_other ho (fun e => dQ ho hb hT _ e rfl) v
theorem fH (L : Lay) (w : World) (b j : Nat) (v : Value) (h : L.own b) : Exc L.own w (w.setCell ⟨b, j, none⟩ v) := (Exc.refl _ w).set b j v h
theorem PB.set_off {B : Nat} {L : Lay} {S : St} {w : World} (h : PB B L S w) (x : Int) : PB B L { S with off := x } (w.setCell ⟨L.pw, 0, none⟩ (.int .i64 x)) :=
 ⟨aI h.hp h.hb (.inl (by decide)), aI h.hp h.hm (.inl (by decide)), ZqQ w L.pw 0 _ _ _ h.hp, aI h.hp h.hs (.inl (by decide)), aI h.hp h.hc (.inl (by decide)), aI h.hp h.hk (.inl (by decide)), aI h.hp h.hu (.inl (by decide)), aI h.hp h.hq (.inl (by decide)), aP h.wr h.hp (by decide), aP h.wi h.hp (by decide), aP h.wo h.hp (by decide), h.ri, h.ro, h.io, h.lb, h.lm, h.lp, h.ls, h.lc, h.lk, h.lu, h.lq⟩
theorem PB.set_code {B : Nat} {L : Lay} {S : St} {w : World} (h : PB B L S w) (x : Int) : PB B L { S with code := x } (w.setCell ⟨L.pw, 1, none⟩ (.int .i64 x)) :=
 ⟨aI h.hp h.hb (.inl (by decide)), aI h.hp h.hm (.inl (by decide)), ZqQ w L.pw 1 _ _ _ h.hp, aI h.hp h.hs (.inl (by decide)), aI h.hp h.hc (.inl (by decide)), aI h.hp h.hk (.inl (by decide)), aI h.hp h.hu (.inl (by decide)), aI h.hp h.hq (.inl (by decide)), aP h.wr h.hp (by decide), aP h.wi h.hp (by decide), aP h.wo h.hp (by decide), h.ri, h.ro, h.io, h.lb, h.lm, h.lp, h.ls, h.lc, h.lk, h.lu, h.lq⟩
theorem PB.set_msip {B : Nat} {L : Lay} {S : St} {w : World} (h : PB B L S w) (x : Int) : PB B L { S with msip := x } (w.setCell ⟨L.sw, 0, none⟩ (.int .u32 x)) :=
 ⟨aI h.hs h.hb (.inl (by decide)), aI h.hs h.hm (.inl (by decide)), aI h.hs h.hp (.inl (by decide)), ZqQ w L.sw 0 _ _ _ h.hs, aI h.hs h.hc (.inl (by decide)), aI h.hs h.hk (.inl (by decide)), aI h.hs h.hu (.inl (by decide)), aI h.hs h.hq (.inl (by decide)), aP h.wr h.hs (by decide), aP h.wi h.hs (by decide), aP h.wo h.hs (by decide), h.ri, h.ro, h.io, h.lb, h.lm, h.lp, h.ls, h.lc, h.lk, h.lu, h.lq⟩
theorem PB.set_cmp {B : Nat} {L : Lay} {S : St} {w : World} (h : PB B L S w) (x : Int) : PB B L { S with cmp := x } (w.setCell ⟨L.cm, 1, none⟩ (.int .u64 x)) :=
 ⟨aI h.hc h.hb (.inl (by decide)), aI h.hc h.hm (.inl (by decide)), aI h.hc h.hp (.inl (by decide)), aI h.hc h.hs (.inl (by decide)), ZqQ w L.cm 1 _ _ _ h.hc, aI h.hc h.hk (.inr (by simp)), aI h.hc h.hu (.inl (by decide)), aI h.hc h.hq (.inl (by decide)), aP h.wr h.hc (by decide), aP h.wi h.hc (by decide), aP h.wo h.hc (by decide), h.ri, h.ro, h.io, h.lb, h.lm, h.lp, h.ls, h.lc, h.lk, h.lu, h.lq⟩
theorem PB.set_time {B : Nat} {L : Lay} {S : St} {w : World} (h : PB B L S w) (x : Int) : PB B L { S with time := x } (w.setCell ⟨L.ck, 1, none⟩ (.int .u64 x)) :=
 ⟨aI h.hk h.hb (.inl (by decide)), aI h.hk h.hm (.inl (by decide)), aI h.hk h.hp (.inl (by decide)), aI h.hk h.hs (.inl (by decide)), aI h.hk h.hc (.inr (by simp)), ZqQ w L.ck 1 _ _ _ h.hk, aI h.hk h.hu (.inl (by decide)), aI h.hk h.hq (.inl (by decide)), aP h.wr h.hk (by decide), aP h.wi h.hk (by decide), aP h.wo h.hk (by decide), h.ri, h.ro, h.io, h.lb, h.lm, h.lp, h.ls, h.lc, h.lk, h.lu, h.lq⟩
theorem PB.set_ier {B : Nat} {L : Lay} {S : St} {w : World} (h : PB B L S w) (x : Int) : PB B L { S with ier := x } (w.setCell ⟨L.u, 0, none⟩ (.int .u8 x)) :=
 ⟨aI h.hu h.hb (.inl (by decide)), aI h.hu h.hm (.inl (by decide)), aI h.hu h.hp (.inl (by decide)), aI h.hu h.hs (.inl (by decide)), aI h.hu h.hc (.inl (by decide)), aI h.hu h.hk (.inl (by decide)), ZqQ w L.u 0 _ _ _ h.hu, aI h.hu h.hq (.inl (by decide)), aP h.wr h.hu (by decide), aP h.wi h.hu (by decide), aP h.wo h.hu (by decide), h.ri, h.ro, h.io, h.lb, h.lm, h.lp, h.ls, h.lc, h.lk, h.lu, h.lq⟩
theorem PB.set_lcr {B : Nat} {L : Lay} {S : St} {w : World} (h : PB B L S w) (x : Int) : PB B L { S with lcr := x } (w.setCell ⟨L.u, 1, none⟩ (.int .u8 x)) :=
 ⟨aI h.hu h.hb (.inl (by decide)), aI h.hu h.hm (.inl (by decide)), aI h.hu h.hp (.inl (by decide)), aI h.hu h.hs (.inl (by decide)), aI h.hu h.hc (.inl (by decide)), aI h.hu h.hk (.inl (by decide)), ZqQ w L.u 1 _ _ _ h.hu, aI h.hu h.hq (.inl (by decide)), aP h.wr h.hu (by decide), aP h.wi h.hu (by decide), aP h.wo h.hu (by decide), h.ri, h.ro, h.io, h.lb, h.lm, h.lp, h.ls, h.lc, h.lk, h.lu, h.lq⟩
theorem PB.set_mcr {B : Nat} {L : Lay} {S : St} {w : World} (h : PB B L S w) (x : Int) : PB B L { S with mcr := x } (w.setCell ⟨L.u, 2, none⟩ (.int .u8 x)) :=
 ⟨aI h.hu h.hb (.inl (by decide)), aI h.hu h.hm (.inl (by decide)), aI h.hu h.hp (.inl (by decide)), aI h.hu h.hs (.inl (by decide)), aI h.hu h.hc (.inl (by decide)), aI h.hu h.hk (.inl (by decide)), ZqQ w L.u 2 _ _ _ h.hu, aI h.hu h.hq (.inl (by decide)), aP h.wr h.hu (by decide), aP h.wi h.hu (by decide), aP h.wo h.hu (by decide), h.ri, h.ro, h.io, h.lb, h.lm, h.lp, h.ls, h.lc, h.lk, h.lu, h.lq⟩
theorem PB.set_scr {B : Nat} {L : Lay} {S : St} {w : World} (h : PB B L S w) (x : Int) : PB B L { S with scr := x } (w.setCell ⟨L.u, 3, none⟩ (.int .u8 x)) :=
 ⟨aI h.hu h.hb (.inl (by decide)), aI h.hu h.hm (.inl (by decide)), aI h.hu h.hp (.inl (by decide)), aI h.hu h.hs (.inl (by decide)), aI h.hu h.hc (.inl (by decide)), aI h.hu h.hk (.inl (by decide)), ZqQ w L.u 3 _ _ _ h.hu, aI h.hu h.hq (.inl (by decide)), aP h.wr h.hu (by decide), aP h.wi h.hu (by decide), aP h.wo h.hu (by decide), h.ri, h.ro, h.io, h.lb, h.lm, h.lp, h.ls, h.lc, h.lk, h.lu, h.lq⟩
theorem PB.set_ov {B : Nat} {L : Lay} {S : St} {w : World} (h : PB B L S w) (x : Bool) : PB B L { S with ov := x } (w.setCell ⟨L.q, 3, none⟩ (.bool x)) :=
 ⟨aI h.hq h.hb (.inl (by decide)), aI h.hq h.hm (.inl (by decide)), aI h.hq h.hp (.inl (by decide)), aI h.hq h.hs (.inl (by decide)), aI h.hq h.hc (.inl (by decide)), aI h.hq h.hk (.inl (by decide)), aI h.hq h.hu (.inl (by decide)), ZqQ w L.q 3 _ _ _ h.hq, aP h.wr h.hq (by decide), aP h.wi h.hq (by decide), aP h.wo h.hq (by decide), h.ri, h.ro, h.io, h.lb, h.lm, h.lp, h.ls, h.lc, h.lk, h.lu, h.lq⟩
theorem rP (a : Addr) (w : World) : (method 361 81 (.pointer (some a)) "anvil/bus.load").run prog w = .ok (269, .pointer (some a)) w := by kernel_rfl
theorem qJ (a : Addr) (w : World) : (method 361 81 (.pointer (some a)) "anvil/bus.store").run prog w = .ok (270, .pointer (some a)) w := by kernel_rfl
theorem mY (a : Addr) (w : World) : (method 361 80 (.pointer (some a)) "anvil/bus.load").run prog w = .ok (266, .pointer (some a)) w := by kernel_rfl
theorem mH (a : Addr) (w : World) : (method 361 80 (.pointer (some a)) "anvil/bus.store").run prog w = .ok (267, .pointer (some a)) w := by kernel_rfl
theorem jJ (a : Addr) (w : World) : (method 361 82 (.pointer (some a)) "anvil/bus.load").run prog w = .ok (272, .pointer (some a)) w := by kernel_rfl
theorem iV (a : Addr) (w : World) : (method 361 82 (.pointer (some a)) "anvil/bus.store").run prog w = .ok (273, .pointer (some a)) w := by kernel_rfl
theorem rQ (a : Addr) (w : World) : (method 361 83 (.pointer (some a)) "anvil/bus.load").run prog w = .ok (276, .pointer (some a)) w := by kernel_rfl
theorem qK (a : Addr) (w : World) : (method 361 83 (.pointer (some a)) "anvil/bus.store").run prog w = .ok (277, .pointer (some a)) w := by kernel_rfl
theorem xZ {B : Nat} {L : Lay} {S : St} (w : World) (h : PB B L S w) (a z : Int) (hm : 0 ≤ S.msip ∧ S.msip ≤ 4294967295) : Calls prog 269 #[.pointer (some ⟨L.sw, 0, none⟩), .int .u64 a, .int .i64 z] w fun e w' => e = .returned (.int .u64 S.msip) ∧ Below w.heap.size w w' := by
 have s0 := h.cl.s0
 have e1 : IntKind.u64.wrap S.msip = S.msip := bI (by omega) (by omega)
 clear h
 go_enter func269, ntmps269
 go_wp2
 go_ret
 exact ⟨rfl, ZqD _ _⟩
theorem CS {B : Nat} {L : Lay} {S : St} (w : World) (h : PB B L S w) (a z : Int) : Calls prog 266 #[.pointer (some ⟨L.pw, 0, none⟩), .int .u64 a, .int .i64 z] w fun e w' => e = .returned (.int .u64 0) ∧ Below w.heap.size w w' := by
 clear h
 go_enter func266, ntmps266
 go_wp2
 go_ret
 exact ⟨rfl, ZqD _ _⟩
end Go.Proofs.YtddlmenfcbjoaaaGreatDoor
namespace Go.Proofs.YtddlmenfcbjoaaaGreatDoor
set_option linter.unusedVariables false
set_option maxRecDepth 100000
set_option maxHeartbeats 8000000
open Go.ChangeShapes Go.WideShapes Go.ChangeAt Go.RowKit Go.Deep Go.MuLone _root_.Go.Proofs.Tryz
theorem CA {v : Int} (h0 : 0 ≤ v) (h1 : v ≤ 4294967295) : bits .and .u32 v 1 = v % 2 := by
 have e : BitVec.ofInt 32 v = BitVec.ofNat 32 v.toNat := by
  apply ZqT
  rw [BitVec.toNat_ofInt, ZqR]
  omega
 show IntKind.u32.wrap (((BitVec.ofInt 32 v &&& BitVec.ofInt 32 1).toNat : Nat) : Int) = _
 rw [e, show BitVec.ofInt 32 1 = 1#32 from rfl, BitVec.toNat_and, show (1#32).toNat = 1 from rfl, Nat.and_one_is_mod, ZqR]
 show (((v.toNat % 2 ^ 32 % 2 : Nat) : Int)) % 4294967296 = _
 omega
theorem PB.own_sw {B : Nat} {L : Lay} {S : St} {w : World} (h : PB B L S w) : L.own L.sw := by unfold Lay.own; simp
theorem PB.own_pw {B : Nat} {L : Lay} {S : St} {w : World} (h : PB B L S w) : L.own L.pw := by unfold Lay.own; simp
theorem PB.own_q {B : Nat} {L : Lay} {S : St} {w : World} (h : PB B L S w) : L.own L.q := by unfold Lay.own; simp
theorem PB.own_u {B : Nat} {L : Lay} {S : St} {w : World} (h : PB B L S w) : L.own L.u := by unfold Lay.own; simp
theorem PB.own_cm {B : Nat} {L : Lay} {S : St} {w : World} (h : PB B L S w) : L.own L.cm := by unfold Lay.own; simp
theorem PB.own_ck {B : Nat} {L : Lay} {S : St} {w : World} (h : PB B L S w) : L.own L.ck := by unfold Lay.own; simp
theorem wC {B : Nat} {L : Lay} {S : St} (w : World) (h : PB B L S w) (a z v : Int) (hv : 0 ≤ v ∧ v ≤ 18446744073709551615) : Calls prog 270 #[.pointer (some ⟨L.sw, 0, none⟩), .int .u64 a, .int .i64 z, .int .u64 v] w fun e w' => e = .returned (.tuple #[]) ∧ PB B L { S with msip := v % 2 } w' ∧ Exc L.own w w' := by
 have s0 := h.cl.s0
 have f0 : w.frozen? ⟨L.sw, 0, none⟩ = false := frozen_of_row w L.sw 0 _ _ h.hs
 have HP : Hid (PB B L { S with msip := v % 2 } (w.setCell ⟨L.sw, 0, none⟩ (.int .u32 (v % 2)))) := h.set_msip (v % 2)
 have HX : Hid (Exc L.own w (w.setCell ⟨L.sw, 0, none⟩ (.int .u32 (v % 2)))) := fH L w L.sw 0 _ h.own_sw
 have e1 : bits .and .u32 (v % 4294967296) 1 = v % 2 := by
  rw [CA (by omega) (by omega)]; omega
 clear h
 go_enter func270, ntmps270
 go_wp2
 go_end0
 exact ⟨rfl, HP.out, HX.out⟩
def St.fin (S : St) (v : Int) : St := if S.off = 0 then (if v % 65536 = 21845 then { S with off := 1 } else if v % 65536 = 13107 then { S with off := 2, code := v / 65536 % 65536 } else S) else S
theorem xP {B : Nat} {L : Lay} {S : St} (w : World) (h : PB B L S w) (a z v : Int) (hv : 0 ≤ v ∧ v ≤ 18446744073709551615) : Calls prog 267 #[.pointer (some ⟨L.pw, 0, none⟩), .int .u64 a, .int .i64 z, .int .u64 v] w fun e w' => e = .returned (.tuple #[]) ∧ PB B L (S.fin v) w' ∧ Exc L.own w w' := by
 have p0 := h.cl.p0
 have p1 := h.cl.p1
 have f0 : w.frozen? ⟨L.pw, 0, none⟩ = false := frozen_of_row w L.pw 0 _ _ h.hp
 have f1 : w.frozen? ⟨L.pw, 1, none⟩ = false := frozen_of_row w L.pw 1 _ _ h.hp
 have HO : Hid (L.own L.pw) := h.own_pw
 have HP0 := hid h
 have e1 : IntKind.u16.wrap v = v % 65536 := rfl
 clear h
 by_cases h0 : S.off = 0
 ·rw [h0] at p0
  by_cases h1 : v % 65536 = 21845
  ·have q1 : (v % 65536 == 21845) = true := by simpa using h1
   have HE : Hid (S.fin v = { S with off := 1 }) := by unfold Hid St.fin; rw [if_pos h0, if_pos h1]
   go_enter func267, ntmps267
   go_wp2
   first | go_end0 | refine ZqH (results_none rfl _ _ _) rfl ?_
   rw [HE.out]
   exact ⟨rfl, HP0.out.set_off 1, fH L w L.pw 0 _ HO.out⟩
  ·have q1 : (v % 65536 == 21845) = false := by simpa using h1
   by_cases h2 : v % 65536 = 13107
   ·have q2 : (v % 65536 == 13107) = true := by simpa using h2
    have HE : Hid (S.fin v = { S with off := 2, code := v / 65536 % 65536 }) := by unfold Hid St.fin; rw [if_pos h0, if_neg h1, if_pos h2]
    have e2 : IntKind.u16.wrap (v / 65536) = v / 65536 % 65536 := rfl
    go_enter func267, ntmps267
    go_wp2
    first | go_end0 | refine ZqH (results_none rfl _ _ _) rfl ?_
    rw [HE.out]
    exact ⟨rfl, (HP0.out.set_off 2).set_code (v / 65536 % 65536), (fH L w L.pw 0 _ HO.out).trans (fH L _ L.pw 1 _ HO.out)⟩
   ·have q2 : (v % 65536 == 13107) = false := by simpa using h2
    have HE : Hid (S.fin v = S) := by unfold Hid St.fin; rw [if_pos h0, if_neg h1, if_neg h2]
    go_enter func267, ntmps267
    go_wp2
    first | go_end0 | refine ZqH (results_none rfl _ _ _) rfl ?_
    rw [HE.out]
    exact ⟨rfl, HP0.out, Exc.refl _ _⟩
 ·have q0 : (S.off != 0) = true := by simpa using h0
  have HE : Hid (S.fin v = S) := by unfold Hid St.fin; rw [if_neg h0]
  go_enter func267, ntmps267
  go_wp2
  first | go_end0 | refine ZqH (results_none rfl _ _ _) rfl ?_
  rw [HE.out]
  exact ⟨rfl, HP0.out, Exc.refl _ _⟩
theorem PB.locked {B : Nat} {L : Lay} {S : St} {w : World} (h : PB B L S w) : w.cell? ⟨L.q, 0, none⟩ = some (.int .i32 0) ∧ w.frozen? ⟨L.q, 0, none⟩ = false := ⟨ZqP w L.q 0 _ _ _ h.hq, frozen_of_row w L.q 0 _ _ h.hq⟩
theorem wJ {w : World} {q j : Nat} {C : Array Value} {T : TypeId} {x y v : Value} (hq : w.heap[q]? = some (.cells C T (0, 0))) (hx : C[0]? = some x) (hj : j ≠ 0) : ((w.setCell ⟨q, 0, none⟩ y).setCell ⟨q, j, none⟩ v).setCell ⟨q, 0, none⟩ x = w.setCell ⟨q, j, none⟩ v := by
 have hql : q < w.heap.size := (Array.getElem?_eq_some_iff.1 hq).1
 have e1 := ZqQ w q 0 C T y hq
 have e2 := ZqQ _ q j _ T v e1
 have e3 := ZqQ _ q 0 _ T x e2
 have e4 := ZqQ w q j C T v hq
 have hc : ((C.setIfInBounds 0 y).setIfInBounds j v).setIfInBounds 0 x = C.setIfInBounds j v := by
  apply Array.ext_getElem?
  intro i
  have h0 : 0 < C.size := (Array.getElem?_eq_some_iff.1 hx).1
  by_cases hi : i = 0
  ·subst hi
   rw [Array.getElem?_setIfInBounds_ne hj, hx]
   simp [h0]
  ·rw [Array.getElem?_setIfInBounds_ne (by omega)]
   by_cases hij : j = i
   ·subst hij; simp [Array.getElem?_setIfInBounds]
   ·rw [Array.getElem?_setIfInBounds_ne hij, Array.getElem?_setIfInBounds_ne (by omega), Array.getElem?_setIfInBounds_ne hij]
 have hh : (((w.setCell ⟨q, 0, none⟩ y).setCell ⟨q, j, none⟩ v).setCell ⟨q, 0, none⟩ x).heap = (w.setCell ⟨q, j, none⟩ v).heap := by
  apply Array.ext_getElem?
  intro i
  by_cases hi : i = q
  ·subst hi; rw [e3, e4, hc]
  ·rw [Below.heap_setCell _ ⟨q, 0, none⟩ x i hi, Below.heap_setCell _ ⟨q, j, none⟩ v i hi, Below.heap_setCell _ ⟨q, 0, none⟩ y i hi, Below.heap_setCell _ ⟨q, j, none⟩ v i hi]
 unfold World.setCell at hh ⊢
 simp only at hh ⊢
 rw [hh]
theorem tell_c {B : Nat} {L : Lay} {S : St} (w : World) (h : PB B L S w) : Calls prog 282 #[.pointer (some ⟨L.q, 0, none⟩)] w fun e w' => e = .returned (.tuple #[.bool (decide (0 < S.inp.length)), .bool S.ov]) ∧ PB B L { S with ov := false } w' ∧ Exc L.own w w' := by
 obtain ⟨c0, f0⟩ := h.locked
 obtain ⟨w1, hw1⟩ : ∃ w1, w1 = w.setCell ⟨L.q, 0, none⟩ (.int .i32 1) := ⟨_, rfl⟩
 have hq1 : w1.heap[L.q]? = some (.cells #[.int .i32 1, .int .u32 0, L.vi, .bool S.ov] 113 (0, 0)) := by rw [hw1]; exact ZqQ w L.q 0 _ _ _ h.hq
 have d2 : w1.cell? ⟨L.q, 2, none⟩ = some L.vi := ZqP w1 L.q 2 _ _ _ hq1
 have d3 : w1.cell? ⟨L.q, 3, none⟩ = some (.bool S.ov) := ZqP w1 L.q 3 _ _ _ hq1
 have g3 : w1.frozen? ⟨L.q, 3, none⟩ = false := frozen_of_row w1 L.q 3 _ _ hq1
 have HLK := (lock_free kQ ⟨L.q, 0, none⟩ w c0 f0)
 rw [← hw1] at HLK
 have HQ2 : Hid ((w1.setCell ⟨L.q, 3, none⟩ (.bool false)).heap[L.q]? = some (.cells #[.int .i32 1, .int .u32 0, L.vi, .bool false] 113 (0, 0))) := ZqQ w1 L.q 3 _ _ _ hq1
 have HW : Hid ((w1.setCell ⟨L.q, 3, none⟩ (.bool false)).setCell ⟨L.q, 0, none⟩ (.int .i32 0) = w.setCell ⟨L.q, 3, none⟩ (.bool false)) := by
  unfold Hid; rw [hw1]; exact wJ h.hq rfl (by decide)
 have HP : Hid (PB B L { S with ov := false } (w.setCell ⟨L.q, 3, none⟩ (.bool false))) := h.set_ov false
 have HX : Hid (Exc L.own w (w.setCell ⟨L.q, 3, none⟩ (.bool false))) := fH L w L.q 3 _ h.own_q
 obtain ⟨ai, ci, ei, _⟩ := Byt.of_own h.wi
 obtain ⟨b, hb⟩ : ∃ b, b = decide (0 < S.inp.length) := ⟨_, rfl⟩
 rw [← hb]
 have HE := hid hb
 rw [ei] at d2
 clear hw1 hq1 hb h ei
 go_enter_defers func282, ntmps282
 go_wp2_with (go_at_call 46; refine HLK.mono ?_; rintro e w' ⟨rfl, rfl⟩)
 refine leaves_cons (f := 47) (args := #[.pointer (some ⟨L.q, 0, none⟩)]) (by simp) (by simp [go_sem]) ?_
 refine (unlock_deferred kQ ⟨L.q, 0, none⟩ .returning _ ?_ ?_).mono ?_
 ·exact ZqP _ L.q 0 _ _ _ HQ2.out
 ·exact frozen_of_row _ L.q 0 _ _ HQ2.out
 rintro e u' w3 ⟨rfl, rfl, hw3⟩
 refine ⟨_, results_tmp2 rfl _ _ _, by rw [HE.out]; rfl, ?_⟩
 rw [hw3, HW.out]
 exact ⟨HP.out, HX.out⟩
theorem PB.set_vi {B : Nat} {L : Lay} {S : St} {w : World} (h : PB B L S w) (v : Value) (l : List Int) (ho : w.ownsRow B 5 1 v l.length (bv l)) (hr : ∀ g, L.vr.ownBlock = some g → v.ownBlock ≠ some g) (hv : ∀ g, v.ownBlock = some g → L.vo.ownBlock ≠ some g) :
  PB B { L with vi := v } { S with inp := l } (w.setCell ⟨L.q, 2, none⟩ v) :=
 ⟨aI h.hq h.hb (.inl (by decide)), aI h.hq h.hm (.inl (by decide)), aI h.hq h.hp (.inl (by decide)), aI h.hq h.hs (.inl (by decide)), aI h.hq h.hc (.inl (by decide)), aI h.hq h.hk (.inl (by decide)), aI h.hq h.hu (.inl (by decide)), ZqQ w L.q 2 _ _ _ h.hq,
  aP h.wr h.hq (by decide), aP ho h.hq (by decide), aP h.wo h.hq (by decide), hr, h.ro, hv, h.lb, h.lm, h.lp, h.ls, h.lc, h.lk, h.lu, h.lq⟩
theorem OR {B : Nat} {L : Lay} {S : St} (w : World) (h : PB B L S w) : Calls prog 258 #[.pointer (some ⟨L.q, 0, none⟩)] w fun e w' => e = .returned (.tuple #[]) ∧ PB B { L with vi := .slice none 0 0 } { S with inp := [] } w' ∧ Exc L.own w w' := by
 obtain ⟨c0, f0⟩ := h.locked
 obtain ⟨w1, hw1⟩ : ∃ w1, w1 = w.setCell ⟨L.q, 0, none⟩ (.int .i32 1) := ⟨_, rfl⟩
 have hq1 : w1.heap[L.q]? = some (.cells #[.int .i32 1, .int .u32 0, L.vi, .bool S.ov] 113 (0, 0)) := by rw [hw1]; exact ZqQ w L.q 0 _ _ _ h.hq
 have d2 : w1.cell? ⟨L.q, 2, none⟩ = some L.vi := ZqP w1 L.q 2 _ _ _ hq1
 have g2 : w1.frozen? ⟨L.q, 2, none⟩ = false := frozen_of_row w1 L.q 2 _ _ hq1
 have HLK := (lock_free kQ ⟨L.q, 0, none⟩ w c0 f0)
 rw [← hw1] at HLK
 have HQ2 : Hid ((w1.setCell ⟨L.q, 2, none⟩ (.slice none 0 0)).heap[L.q]? = some (.cells #[.int .i32 1, .int .u32 0, .slice none 0 0, .bool S.ov] 113 (0, 0))) := ZqQ w1 L.q 2 _ _ _ hq1
 have HW : Hid ((w1.setCell ⟨L.q, 2, none⟩ (.slice none 0 0)).setCell ⟨L.q, 0, none⟩ (.int .i32 0) = w.setCell ⟨L.q, 2, none⟩ (.slice none 0 0)) := by
  unfold Hid; rw [hw1]; exact wJ h.hq rfl (by decide)
 have HP : Hid (PB B { L with vi := .slice none 0 0 } { S with inp := [] } (w.setCell ⟨L.q, 2, none⟩ (.slice none 0 0))) := h.set_vi (.slice none 0 0) [] (World.ownsRow_nil _ _ _ _) (fun g hg e => by cases e) (fun g hg => by cases hg)
 have HX : Hid (Exc L.own w (w.setCell ⟨L.q, 2, none⟩ (.slice none 0 0))) := fH L w L.q 2 _ h.own_q
 clear hw1 hq1 h
 go_enter_defers func258, ntmps258
 go_wp2_with (go_at_call 46; refine HLK.mono ?_; rintro e w' ⟨rfl, rfl⟩)
 refine leaves_cons (f := 47) (args := #[.pointer (some ⟨L.q, 0, none⟩)]) (by simp) (by simp [go_sem]) ?_
 refine (unlock_deferred kQ ⟨L.q, 0, none⟩ .returning _ ?_ ?_).mono ?_
 ·exact ZqP _ L.q 0 _ _ _ HQ2.out
 ·exact frozen_of_row _ L.q 0 _ _ HQ2.out
 rintro e u' w3 ⟨rfl, rfl, hw3⟩
 refine ⟨_, results_none rfl _ _ _, rfl, ?_⟩
 rw [hw3, HW.out]
 exact ⟨HP.out, HX.out⟩
theorem sM {B : Nat} {L : Lay} {S : St} (w : World) (h : PB B L S w) : Calls prog 275 #[.pointer (some ⟨L.u, 0, none⟩)] w fun e w' => e = .returned (.bool (decide ((S.out.length : Int) < 4096))) ∧ w' = w := by
 have u5 := h.cl.u5
 obtain ⟨ao, co, eo, _⟩ := Byt.of_own h.wo
 rw [eo] at u5
 clear h eo
 go_enter func275, ntmps275
 go_wp2
 go_ret
 exact ⟨rfl, rfl⟩
theorem KN {B : Nat} {L : Lay} {S : St} (w : World) (h : PB B L S w) (hi : 0 ≤ S.ier ∧ S.ier ≤ 255) : Calls prog 279 #[.pointer (some ⟨L.u, 0, none⟩)] w fun e w' => e = .returned (.int .u64 (if kY S = true then 4 else 1)) ∧ Below w.heap.size w w' := by
 have HL := IS w h hi
 cases hl : kY S with
 | true =>
  rw [hl] at HL
  clear h
  go_enter func279, ntmps279
  go_wp2_with (go_at_call 37; refine HL.mono ?_; rintro e w1 ⟨rfl, hb1⟩)
  go_ret
  exact ⟨rfl, hb1⟩
 | false =>
  rw [hl] at HL
  clear h
  go_enter func279, ntmps279
  go_wp2_with (go_at_call 37; refine HL.mono ?_; rintro e w1 ⟨rfl, hb1⟩)
  go_ret
  exact ⟨rfl, hb1⟩
def lY (S : St) : Int := (if 0 < S.inp.length then 1 else 0) + (if S.ov then 2 else 0) + (if (S.out.length : Int) < 4096 then 96 else 0)
theorem LF {B : Nat} {L : Lay} {S : St} (w : World) (h : PB B L S w) : Calls prog 280 #[.pointer (some ⟨L.u, 0, none⟩)] w fun e w' => e = .returned (.int .u64 (lY S)) ∧ PB B L { S with ov := false } w' ∧ Exc L.own w w' := by
 have u4 := h.cl.u4
 have HT := tell_c w h
 have HR : Hid (∀ w1, PB B L { S with ov := false } w1 → Calls prog 275 #[.pointer (some ⟨L.u, 0, none⟩)] w1 fun e w' => e = .returned (.bool (decide ((S.out.length : Int) < 4096))) ∧ w' = w1) := fun w1 h1 => sM (S := { S with ov := false }) w1 h1
 have HE : Hid (lY S = (if decide (0 < S.inp.length) = true then 1 else 0) + (if S.ov = true then 2 else 0) + (if decide ((S.out.length : Int) < 4096) = true then 96 else 0)) := by unfold Hid lY; simp
 generalize lY S = r at HE ⊢
 generalize decide (0 < S.inp.length) = b1 at HT HE
 generalize decide ((S.out.length : Int) < 4096) = b3 at HR HE
 generalize hT : ({ S with ov := false } : St) = T at HT HR ⊢
 clear hT h
 generalize S.ov = b2 at HT HE
 cases b1 <;> cases b2 <;> cases b3
 all_goals
  go_enter func280, ntmps280
  go_wp2_with (first | (go_at_call 282; refine HT.mono ?_; rintro e w1 ⟨rfl, hp, hx⟩; have HP : Hid _ := hp; have HX : Hid _ := hx; clear hp hx) | (go_at_call 275; refine (HR.out _ HP.out).mono ?_; rintro e w2 ⟨rfl, hw⟩; have hw2 := hw.symm; subst hw2))
  go_ret
  exact ⟨by rw [HE.out]; rfl, HP.out, HX.out⟩
theorem RZ {B : Nat} {L : Lay} {S : St} (w : World) (h : PB B L S w) (hi : 0 ≤ S.ier ∧ S.ier ≤ 255) (z : Int) : Calls prog 276 #[.pointer (some ⟨L.u, 0, none⟩), .int .u64 268435457, .int .i64 z] w fun e w' => e = .returned (.int .u64 S.ier) ∧ w' = w := by
 have u0 := h.cl.u0
 have HW : Hid (IntKind.u64.wrap S.ier = S.ier) := bI hi.1 (by omega)
 clear h hi
 go_enter func276, ntmps276
 go_wp2
 go_ret
 exact ⟨by first | (rw [← HW.out]; rfl) | (show Ending.returned (.int .u64 (IntKind.u64.wrap S.ier)) = _; rw [HW.out]), rfl⟩
theorem SB {B : Nat} {L : Lay} {S : St} (w : World) (h : PB B L S w) (hi : 0 ≤ S.lcr ∧ S.lcr ≤ 255) (z : Int) : Calls prog 276 #[.pointer (some ⟨L.u, 0, none⟩), .int .u64 268435459, .int .i64 z] w fun e w' => e = .returned (.int .u64 S.lcr) ∧ w' = w := by
 have u1 := h.cl.u1
 have HW : Hid (IntKind.u64.wrap S.lcr = S.lcr) := bI hi.1 (by omega)
 clear h hi
 go_enter func276, ntmps276
 go_wp2
 go_ret
 exact ⟨by first | (rw [← HW.out]; rfl) | (show Ending.returned (.int .u64 (IntKind.u64.wrap S.lcr)) = _; rw [HW.out]), rfl⟩
theorem SC {B : Nat} {L : Lay} {S : St} (w : World) (h : PB B L S w) (hi : 0 ≤ S.mcr ∧ S.mcr ≤ 255) (z : Int) : Calls prog 276 #[.pointer (some ⟨L.u, 0, none⟩), .int .u64 268435460, .int .i64 z] w fun e w' => e = .returned (.int .u64 S.mcr) ∧ w' = w := by
 have u2 := h.cl.u2
 have HW : Hid (IntKind.u64.wrap S.mcr = S.mcr) := bI hi.1 (by omega)
 clear h hi
 go_enter func276, ntmps276
 go_wp2
 go_ret
 exact ⟨by first | (rw [← HW.out]; rfl) | (show Ending.returned (.int .u64 (IntKind.u64.wrap S.mcr)) = _; rw [HW.out]), rfl⟩
theorem SF {B : Nat} {L : Lay} {S : St} (w : World) (h : PB B L S w) (hi : 0 ≤ S.scr ∧ S.scr ≤ 255) (z : Int) : Calls prog 276 #[.pointer (some ⟨L.u, 0, none⟩), .int .u64 268435463, .int .i64 z] w fun e w' => e = .returned (.int .u64 S.scr) ∧ w' = w := by
 have u3 := h.cl.u3
 have HW : Hid (IntKind.u64.wrap S.scr = S.scr) := bI hi.1 (by omega)
 clear h hi
 go_enter func276, ntmps276
 go_wp2
 go_ret
 exact ⟨by first | (rw [← HW.out]; rfl) | (show Ending.returned (.int .u64 (IntKind.u64.wrap S.scr)) = _; rw [HW.out]), rfl⟩
theorem SE (a : Option Addr) (w : World) (z : Int) : Calls prog 276 #[.pointer a, .int .u64 268435462, .int .i64 z] w fun e w' => e = .returned (.int .u64 0) ∧ w' = w := by
 go_enter func276, ntmps276
 go_wp2
 go_ret
 exact ⟨rfl, rfl⟩
theorem SA {B : Nat} {L : Lay} {S : St} (w : World) (h : PB B L S w) (hi : 0 ≤ S.ier ∧ S.ier ≤ 255) (z : Int) : Calls prog 276 #[.pointer (some ⟨L.u, 0, none⟩), .int .u64 268435458, .int .i64 z] w fun e w' => e = .returned (.int .u64 (if kY S = true then 4 else 1)) ∧ Below w.heap.size w w' := by
 have HR := KN w h hi
 generalize (if kY S = true then (4 : Int) else 1) = r at HR ⊢
 clear h hi
 go_enter func276, ntmps276
 go_wp2_with (go_at_call 279; refine HR.mono ?_; rintro e w1 ⟨rfl, hb1⟩)
 go_ret
 exact ⟨rfl, hb1⟩
theorem SD {B : Nat} {L : Lay} {S : St} (w : World) (h : PB B L S w) (z : Int) : Calls prog 276 #[.pointer (some ⟨L.u, 0, none⟩), .int .u64 268435461, .int .i64 z] w fun e w' => e = .returned (.int .u64 (lY S)) ∧ PB B L { S with ov := false } w' ∧ Exc L.own w w' := by
 have HR := LF w h
 generalize lY S = r at HR ⊢
 generalize ({ S with ov := false } : St) = T at HR ⊢
 clear h
 go_enter func276, ntmps276
 go_wp2_with (go_at_call 280; refine HR.mono ?_; rintro e w1 ⟨rfl, hp, hx⟩; have HP : Hid _ := hp; have HX : Hid _ := hx; clear hp hx)
 go_ret
 exact ⟨rfl, HP.out, HX.out⟩
theorem LU {B : Nat} {L : Lay} {S : St} (w : World) (h : PB B L S w) (z v : Int) : Calls prog 277 #[.pointer (some ⟨L.u, 0, none⟩), .int .u64 268435459, .int .i64 z, .int .u64 v] w fun e w' => e = .returned (.tuple #[]) ∧ PB B L { S with lcr := v % 256 } w' ∧ Exc L.own w w' := by
 have u1 := h.cl.u1
 have f1 : w.frozen? ⟨L.u, 1, none⟩ = false := frozen_of_row w L.u 1 _ _ h.hu
 have HP : Hid (PB B L { S with lcr := v % 256 } (w.setCell ⟨L.u, 1, none⟩ (.int .u8 (v % 256)))) := h.set_lcr (v % 256)
 have HX : Hid (Exc L.own w (w.setCell ⟨L.u, 1, none⟩ (.int .u8 (v % 256)))) := fH L w L.u 1 _ h.own_u
 clear h
 go_enter func277, ntmps277
 go_wp2
 go_end0
 exact ⟨rfl, HP.out, HX.out⟩
theorem LY {B : Nat} {L : Lay} {S : St} (w : World) (h : PB B L S w) (z v : Int) : Calls prog 277 #[.pointer (some ⟨L.u, 0, none⟩), .int .u64 268435463, .int .i64 z, .int .u64 v] w fun e w' => e = .returned (.tuple #[]) ∧ PB B L { S with scr := v % 256 } w' ∧ Exc L.own w w' := by
 have u3 := h.cl.u3
 have f3 : w.frozen? ⟨L.u, 3, none⟩ = false := frozen_of_row w L.u 3 _ _ h.hu
 have HP : Hid (PB B L { S with scr := v % 256 } (w.setCell ⟨L.u, 3, none⟩ (.int .u8 (v % 256)))) := h.set_scr (v % 256)
 have HX : Hid (Exc L.own w (w.setCell ⟨L.u, 3, none⟩ (.int .u8 (v % 256)))) := fH L w L.u 3 _ h.own_u
 clear h
 go_enter func277, ntmps277
 go_wp2
 go_end0
 exact ⟨rfl, HP.out, HX.out⟩
theorem LW (a : Option Addr) (w : World) (z v : Int) : Calls prog 277 #[.pointer a, .int .u64 268435461, .int .i64 z, .int .u64 v] w fun e w' => e = .returned (.tuple #[]) ∧ w' = w := by
 go_enter func277, ntmps277
 go_wp2
 go_end0
 exact ⟨rfl, rfl⟩
theorem LX (a : Option Addr) (w : World) (z v : Int) : Calls prog 277 #[.pointer a, .int .u64 268435462, .int .i64 z, .int .u64 v] w fun e w' => e = .returned (.tuple #[]) ∧ w' = w := by
 go_enter func277, ntmps277
 go_wp2
 go_end0
 exact ⟨rfl, rfl⟩
theorem CC {v : Int} (h0 : 0 ≤ v) (h1 : v ≤ 255) : bits .and .u8 v 15 = v % 16 := by
 have e : BitVec.ofInt 8 v = BitVec.ofNat 8 v.toNat := by
  apply ZqT
  rw [BitVec.toNat_ofInt, ZqR]
  omega
 show IntKind.u8.wrap (((BitVec.ofInt 8 v &&& BitVec.ofInt 8 15).toNat : Nat) : Int) = _
 rw [e, show BitVec.ofInt 8 15 = 15#8 from rfl, BitVec.toNat_and, show (15#8).toNat = 2 ^ 4 - 1 from rfl, Nat.and_two_pow_sub_one_eq_mod, ZqR]
 show (((v.toNat % 2 ^ 8 % 16 : Nat) : Int)) % 256 = _
 omega
theorem LS {B : Nat} {L : Lay} {S : St} (w : World) (h : PB B L S w) (z v : Int) : Calls prog 277 #[.pointer (some ⟨L.u, 0, none⟩), .int .u64 268435457, .int .i64 z, .int .u64 v] w fun e w' => e = .returned (.tuple #[]) ∧ PB B L { S with ier := v % 16 } w' ∧ Exc L.own w w' := by
 have u0 := h.cl.u0
 have f0 : w.frozen? ⟨L.u, 0, none⟩ = false := frozen_of_row w L.u 0 _ _ h.hu
 have HP : Hid (PB B L { S with ier := v % 16 } (w.setCell ⟨L.u, 0, none⟩ (.int .u8 (v % 16)))) := h.set_ier (v % 16)
 have HX : Hid (Exc L.own w (w.setCell ⟨L.u, 0, none⟩ (.int .u8 (v % 16)))) := fH L w L.u 0 _ h.own_u
 have e1 : bits .and .u8 (v % 256) 15 = v % 16 := by
  rw [CC (by omega) (by omega)]; omega
 clear h
 go_enter func277, ntmps277
 go_wp2
 go_end0
 exact ⟨rfl, HP.out, HX.out⟩
theorem CD {v : Int} (h0 : 0 ≤ v) (h1 : v ≤ 255) : bits .and .u8 v 31 = v % 32 := by
 have e : BitVec.ofInt 8 v = BitVec.ofNat 8 v.toNat := by
  apply ZqT
  rw [BitVec.toNat_ofInt, ZqR]
  omega
 show IntKind.u8.wrap (((BitVec.ofInt 8 v &&& BitVec.ofInt 8 31).toNat : Nat) : Int) = _
 rw [e, show BitVec.ofInt 8 31 = 31#8 from rfl, BitVec.toNat_and, show (31#8).toNat = 2 ^ 5 - 1 from rfl, Nat.and_two_pow_sub_one_eq_mod, ZqR]
 show (((v.toNat % 2 ^ 8 % 32 : Nat) : Int)) % 256 = _
 omega
theorem LV {B : Nat} {L : Lay} {S : St} (w : World) (h : PB B L S w) (z v : Int) : Calls prog 277 #[.pointer (some ⟨L.u, 0, none⟩), .int .u64 268435460, .int .i64 z, .int .u64 v] w fun e w' => e = .returned (.tuple #[]) ∧ PB B L { S with mcr := v % 32 } w' ∧ Exc L.own w w' := by
 have u2 := h.cl.u2
 have f2 : w.frozen? ⟨L.u, 2, none⟩ = false := frozen_of_row w L.u 2 _ _ h.hu
 have HP : Hid (PB B L { S with mcr := v % 32 } (w.setCell ⟨L.u, 2, none⟩ (.int .u8 (v % 32)))) := h.set_mcr (v % 32)
 have HX : Hid (Exc L.own w (w.setCell ⟨L.u, 2, none⟩ (.int .u8 (v % 32)))) := fH L w L.u 2 _ h.own_u
 have e1 : bits .and .u8 (v % 256) 31 = v % 32 := by
  rw [CD (by omega) (by omega)]; omega
 clear h
 go_enter func277, ntmps277
 go_wp2
 go_end0
 exact ⟨rfl, HP.out, HX.out⟩
end Go.Proofs.YtddlmenfcbjoaaaGreatDoor
namespace Go.Proofs.YtddlmenfcbjoaaaGreatDoor
set_option linter.unusedVariables false
set_option maxRecDepth 100000
set_option maxHeartbeats 8000000
open Go.ChangeShapes Go.WideShapes Go.ChangeAt Go.RowKit Go.Deep _root_.Go.Proofs.Tryz
theorem lR {w : World} {B n t j : Nat} {v u : Value} {xs : List Value} (h : w.ownsRow B 5 1 v n xs) (ht : t < B) : (w.setCell ⟨t, j, none⟩ u).ownsRow B 5 1 v n xs := ownsRow_setCell_below h ht u
theorem KM {n : Nat} (h : (n : Int) < 8) : gS n = false := by simp [gS]; omega
theorem KL {n : Nat} (h : (65536 : Int) < n) : gS n = false := by simp [gS]; omega
theorem DN {n : Nat} (h : ((n : Int) % 8 != 0) = true) : gS n = false := by simp [gS] at h ⊢; omega
theorem KB {o c : Int} (h : o < 0) : fM o c = false := by unfold fM; rw [if_neg (by omega), if_neg (by omega)]
theorem KA {o c : Int} (h : 2 < o) : fM o c = false := by unfold fM; rw [if_neg (by omega), if_neg (by omega)]
theorem wG (S : St) (ar ai ao : Option Addr) (cr ci co : Nat) (w : World) :
  Calls prog 20 #[.agg (stc S (.slice ar S.ram.length cr) (.slice ai S.inp.length ci) (.slice ao S.out.length co))] w fun e w' => e = .returned (.bool S.ok) ∧ Below w.heap.size w w' := by
 have HB : Hid (∀ o, Below w.heap.size w (w.alloc o)) := fun o => (ZqD _ _).alloc (ZqE _) o
 obtain ⟨b, hb⟩ : ∃ b, b = S.ok := ⟨_, rfl⟩
 rw [← hb]
 have HE : Hid (b = (gS S.ram.length && decide (S.msip ≤ 1) && decide (S.ier ≤ 15) && decide (S.mcr ≤ 31) && decide ((S.inp.length : Int) ≤ 64) && decide ((S.out.length : Int) ≤ 4096) && fM S.off S.code)) := hb
 clear hb
 unfold stc
 rcases Int.lt_or_le (S.ram.length : Int) 8 with ga | ha
 ·have HX : Hid (b = false) := by unfold Hid; rw [HE.out]; simp [KM ga]
  clear HE
  go_enter func20, ntmps20
  go_wp2
  go_ret
  exact ⟨by cases HX.out; rfl, HB.out _⟩
 rcases Int.lt_or_le 65536 (S.ram.length : Int) with gb | hb
 ·have HX : Hid (b = false) := by unfold Hid; rw [HE.out]; simp [KL gb]
  clear HE
  go_enter func20, ntmps20
  go_wp2
  go_ret
  exact ⟨by cases HX.out; rfl, HB.out _⟩
 have hm : (S.ram.length : Int).tmod 8 = (S.ram.length : Int) % 8 := Int.tmod_eq_emod_of_nonneg (by omega)
 rcases Bool.eq_false_or_eq_true (((S.ram.length : Int) % 8) != 0) with gc | hc
 ·have HX : Hid (b = false) := by unfold Hid; rw [HE.out]; simp [DN gc]
  clear HE
  go_enter func20, ntmps20
  go_wp2
  go_ret
  exact ⟨by cases HX.out; rfl, HB.out _⟩
 have hro : gS S.ram.length = true := by have hc' := hc; simp at hc'; simp [gS]; omega
 rcases Int.lt_or_le 1 S.msip with g0 | h0
 ·have HX : Hid (b = false) := by unfold Hid; rw [HE.out]; simp [show ¬ S.msip ≤ 1 by omega]
  clear HE
  go_enter func20, ntmps20
  go_wp2
  go_ret
  exact ⟨by cases HX.out; rfl, HB.out _⟩
 rcases Int.lt_or_le 15 S.ier with g1 | h1
 ·have HX : Hid (b = false) := by unfold Hid; rw [HE.out]; simp [show ¬ S.ier ≤ 15 by omega]
  clear HE
  go_enter func20, ntmps20
  go_wp2
  go_ret
  exact ⟨by cases HX.out; rfl, HB.out _⟩
 rcases Int.lt_or_le 31 S.mcr with g2 | h2
 ·have HX : Hid (b = false) := by unfold Hid; rw [HE.out]; simp [show ¬ S.mcr ≤ 31 by omega]
  clear HE
  go_enter func20, ntmps20
  go_wp2
  go_ret
  exact ⟨by cases HX.out; rfl, HB.out _⟩
 rcases Int.lt_or_le 64 (S.inp.length : Int) with g3 | h3
 ·have HX : Hid (b = false) := by unfold Hid; rw [HE.out]; simp [show ¬ (S.inp.length : Int) ≤ 64 by omega]
  clear HE
  go_enter func20, ntmps20
  go_wp2
  go_ret
  exact ⟨by cases HX.out; rfl, HB.out _⟩
 rcases Int.lt_or_le 4096 (S.out.length : Int) with g4 | h4
 ·have HX : Hid (b = false) := by unfold Hid; rw [HE.out]; simp [show ¬ (S.out.length : Int) ≤ 4096 by omega]
  clear HE
  go_enter func20, ntmps20
  go_wp2
  go_ret
  exact ⟨by cases HX.out; rfl, HB.out _⟩
 rcases Int.lt_or_le S.off 0 with gd | hd
 ·have HX : Hid (b = false) := by unfold Hid; rw [HE.out]; simp [KB gd]
  clear HE
  go_enter func20, ntmps20
  go_wp2
  go_ret
  exact ⟨by cases HX.out; rfl, HB.out _⟩
 rcases Int.lt_or_le 2 S.off with ge | he
 ·have HX : Hid (b = false) := by unfold Hid; rw [HE.out]; simp [KA ge]
  clear HE
  go_enter func20, ntmps20
  go_wp2
  go_ret
  exact ⟨by cases HX.out; rfl, HB.out _⟩
 have HX : Hid (b = fM S.off S.code) := by unfold Hid; rw [HE.out]; simp [hro, h0, h1, h2, h3, h4]
 clear HE
 by_cases h5 : S.off = 2
 ·have e5 : (S.off == 2) = true := by simpa using h5
  have HY : Hid (b = (decide (0 ≤ S.code) && decide (S.code ≤ 65535))) := by unfold Hid; rw [HX.out, h5]; rfl
  clear HX
  rcases Int.lt_or_le S.code 0 with gf | hf
  ·have HZ : Hid (b = false) := by unfold Hid; rw [HY.out]; simp; omega
   go_enter func20, ntmps20
   go_wp2
   go_ret
   exact ⟨by cases HZ.out; rfl, HB.out _⟩
  ·have HZ : Hid (b = decide (S.code ≤ 65535)) := by unfold Hid; rw [HY.out]; simp [hf]
   go_enter func20, ntmps20
   go_wp2
   go_ret
   exact ⟨by cases HZ.out; rfl, HB.out _⟩
 ·have e5 : (S.off == 2) = false := by simpa using h5
  have HZ : Hid (b = (S.code == 0)) := by unfold Hid; rw [HX.out, fM, if_pos (by omega)]
  go_enter func20, ntmps20
  go_wp2
  go_ret
  exact ⟨by cases HZ.out; rfl, HB.out _⟩
structure Bs (S : St) (vr vi vo : Value) (w : World) : Prop where
 r : Byt w vr S.ram
 i : Byt w vi S.inp
 o : Byt w vo S.out
theorem Bs.later {S : St} {vr vi vo : Value} {w w' : World} (h : Bs S vr vi vo w) (hb : Below w.heap.size w w') : Bs S vr vi vo w' := ⟨h.r.later hb rfl, h.i.later hb rfl, h.o.later hb rfl⟩
theorem Sv.bs {B : Nat} {S : St} {vr vi vo : Value} {w : World} (h : Sv B S vr vi vo w) : Bs S vr vi vo w := ⟨Byt.of_own h.r, Byt.of_own h.i, Byt.of_own h.o⟩
def St.zero (n : Nat) : St := ⟨List.replicate n 0, 0, 18446744073709551615, 0, false, false, 0, 0, 0, 0, false, [], [], 0, 0⟩
theorem St.zero_ok {n : Nat} (h : gS n = true) : (St.zero n).ok = true := by
 simp [St.ok, St.zero, h, fM]
theorem Bs.forms {S : St} {vr vi vo : Value} {w : World} (h : Bs S vr vi vo w) : ∃ x1 z1 x2 z2 x3 z3, vr = .slice x1 S.ram.length z1 ∧ vi = .slice x2 S.inp.length z2 ∧ vo = .slice x3 S.out.length z3 := by
 obtain ⟨x1, z1, e1, _⟩ := h.r
 obtain ⟨x2, z2, e2, _⟩ := h.i
 obtain ⟨x3, z3, e3, _⟩ := h.o
 exact ⟨x1, z1, x2, z2, x3, z3, e1, e2, e3⟩
theorem aG (w : World) (o : Obj) : Below w.heap.size w (w.alloc o) := (ZqD _ _).alloc (ZqE _) o
structure Lay.Lt (L : Lay) (M : Nat) : Prop where
 b : L.b < M
 m : L.m < M
 pw : L.pw < M
 sw : L.sw < M
 cm : L.cm < M
 ck : L.ck < M
 u : L.u < M
 q : L.q < M
 vr : ∀ g, L.vr.ownBlock = some g → g < M
 vi : ∀ g, L.vi.ownBlock = some g → g < M
 vo : ∀ g, L.vo.ownBlock = some g → g < M
theorem PB.lt {B : Nat} {L : Lay} {S : St} {w : World} (h : PB B L S w) : L.Lt w.heap.size :=
 ⟨(Array.getElem?_eq_some_iff.1 h.hb).1, (Array.getElem?_eq_some_iff.1 h.hm).1, (Array.getElem?_eq_some_iff.1 h.hp).1, (Array.getElem?_eq_some_iff.1 h.hs).1, (Array.getElem?_eq_some_iff.1 h.hc).1, (Array.getElem?_eq_some_iff.1 h.hk).1, (Array.getElem?_eq_some_iff.1 h.hu).1, (Array.getElem?_eq_some_iff.1 h.hq).1, fun g hg => (h.wr.lt g hg).2, fun g hg => (h.wi.lt g hg).2, fun g hg => (h.wo.lt g hg).2⟩
end Go.Proofs.YtddlmenfcbjoaaaGreatDoor
