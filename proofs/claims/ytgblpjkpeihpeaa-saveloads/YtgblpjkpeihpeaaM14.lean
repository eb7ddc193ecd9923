/-
  He.
-/
import Derived.Test.YtgblpjkpeihpeaaM13
import Derived.Laws.CopyOwn
namespace Go.Proofs.Ytgblpjkpeihpeaa
set_option linter.unusedVariables false
set_option maxRecDepth 100000
open Go.ChangeShapes Go.WideShapes Go.ChangeAt Go.RowKit Go.Deep
/-- The number whose lowest k bytes these are. -/
def tkN (l : List Int) : Nat → Nat
  | 0 => 0
  | k + 1 => tkN l k + (l.getD k 0).toNat * 256 ^ k
def tk (l : List Int) : Nat := tkN l (min l.length 8)
/-- The lowest n bytes of a number. -/
def ptL (N n : Nat) : List Int := (List.range n).map fun j => ((N / 256 ^ j % 256 : Nat) : Int)
theorem getD_byte {l : List Int} (h : AllB l) (j : Nat) : 0 ≤ l.getD j 0 ∧ l.getD j 0 ≤ 255 := by
  by_cases hj : j < l.length
  · have : l.getD j 0 ∈ l := by simp [hj]
    exact h _ this
  · have e : l.getD j 0 = 0 := by simp [List.getD, List.getElem?_eq_none (show l.length ≤ j by omega)]
    omega
theorem ptL_length (N n : Nat) : (ptL N n).length = n := by simp [ptL]
theorem ptL_get (N n j : Nat) (h : j < n) : (ptL N n).getD j 0 = ((N / 256 ^ j % 256 : Nat) : Int) := by simp [ptL, h]
theorem ptL_succ (N n : Nat) : ptL N (n + 1) = ptL N n ++ [((N / 256 ^ n % 256 : Nat) : Int)] := by simp [ptL, List.range_succ]
theorem ptL_all (N n : Nat) : AllB (ptL N n) := by
  intro x hx
  simp only [ptL, List.mem_map] at hx
  obtain ⟨j, _, rfl⟩ := hx
  omega
theorem tkN_lt {l : List Int} (h : AllB l) : ∀ k, tkN l k < 256 ^ k
  | 0 => by simp [tkN]
  | k + 1 => by
    have ih := tkN_lt h k
    have hb := getD_byte h k
    have h2 : (l.getD k 0).toNat * 256 ^ k ≤ 255 * 256 ^ k := Nat.mul_le_mul_right _ (by omega)
    simp only [tkN, Nat.pow_succ]
    omega
theorem tkN_pt (N n : Nat) : ∀ k, k ≤ n → tkN (ptL N n) k = N % 256 ^ k
  | 0, _ => by simp [tkN, Nat.mod_one]
  | k + 1, hk => by
    rw [tkN, tkN_pt N n k (by omega), ptL_get N n k (by omega), Int.toNat_natCast, Nat.pow_succ, Nat.mod_mul]
    rw [Nat.mul_comm]
theorem tk_pt8 (N n : Nat) (hn : n = 8) (h : N < 18446744073709551616) : tk (ptL N n) = N := by
  subst hn
  unfold tk
  rw [ptL_length, show min 8 8 = 8 from rfl, tkN_pt N 8 8 (Nat.le_refl _)]
  exact Nat.mod_eq_of_lt h
theorem pt_tkN {l : List Int} (h : AllB l) : ∀ n, ∀ j, j < n → ((tkN l n / 256 ^ j % 256 : Nat) : Int) = l.getD j 0
  | 0, j, hj => by omega
  | n + 1, j, hj => by
    have hb := getD_byte h n
    have hlt := tkN_lt h n
    rw [tkN]
    by_cases hjn : j = n
    · subst hjn
      rw [Nat.add_mul_div_right _ _ (Nat.pow_pos (by decide)), Nat.div_eq_of_lt hlt, Nat.zero_add, Nat.mod_eq_of_lt (by omega)]
      omega
    · rw [← pt_tkN h n j (by omega)]
      congr 1
      obtain ⟨d, rfl⟩ : ∃ d, n = j + 1 + d := ⟨n - (j + 1), by omega⟩
      rw [show (l.getD (j + 1 + d) 0).toNat * 256 ^ (j + 1 + d) = 256 ^ j * (256 * ((l.getD (j + 1 + d) 0).toNat * 256 ^ d)) by
        rw [Nat.pow_add, Nat.pow_add, Nat.pow_one]; simp only [Nat.mul_comm, Nat.mul_left_comm, Nat.mul_assoc]]
      rw [Nat.add_mul_div_left _ _ (Nat.pow_pos (by decide)), Nat.add_mul_mod_self_left]
theorem pt_tk {l : List Int} (h : AllB l) (hl : l.length ≤ 8) : ptL (tk l) l.length = l := by
  have e0 : tk l = tkN l l.length := by unfold tk; rw [Nat.min_eq_left hl]
  rw [e0]
  apply List.ext_getElem
  · rw [ptL_length]
  · intro j h1 h2
    have e1 := ptL_get (tkN l l.length) l.length j h2
    have e2 := pt_tkN h l.length j h2
    rw [e2] at e1
    simp only [List.getD, List.getElem?_eq_getElem h2, List.getElem?_eq_getElem h1, Option.getD_some] at e1
    exact e1
theorem tk_lt {l : List Int} (h : AllB l) : tk l < 18446744073709551616 := by
  have h1 := tkN_lt h (min l.length 8)
  have h2 : 256 ^ min l.length 8 ≤ 256 ^ 8 := Nat.pow_le_pow_right (by decide) (by omega)
  unfold tk
  exact Nat.lt_of_lt_of_le h1 h2
theorem nat64 {N : Nat} (h : N < 18446744073709551616) : ((N : Nat) : Int) = n64 (BitVec.ofNat 64 N) := by
  unfold n64; rw [BitVec.toNat_ofNat, Nat.mod_eq_of_lt h]
theorem pow8 (k : Nat) : (2 : Nat) ^ (8 * k) = 256 ^ k := by rw [Nat.pow_mul]
theorem take_step {l : List Int} (h : AllB l) (k : Nat) (hk : k < 8) :
    bits .or .u64 ((tkN l k : Nat) : Int) (IntKind.u64.wrap (l.getD k 0 * 2 ^ (8 * k))) = ((tkN l (k + 1) : Nat) : Int) := by
  have hb := getD_byte h k
  have hlt := tkN_lt h k
  have h64 : (256 : Nat) ^ (k + 1) ≤ 256 ^ 8 := Nat.pow_le_pow_right (by decide) (by omega)
  have hd : ((l.getD k 0).toNat : Int) = l.getD k 0 := by omega
  have hprod : (l.getD k 0).toNat * 256 ^ k ≤ 255 * 256 ^ k := Nat.mul_le_mul_right _ (by omega)
  have hp : (l.getD k 0).toNat * 256 ^ k < 18446744073709551616 := by
    have : 255 * 256 ^ k < 256 ^ (k + 1) := by rw [Nat.pow_succ]; have := Nat.pow_pos (n := k) (show 0 < 256 by decide); omega
    exact Nat.lt_of_le_of_lt hprod (Nat.lt_of_lt_of_le this h64)
  have hk1 : tkN l (k + 1) < 18446744073709551616 := Nat.lt_of_lt_of_le (tkN_lt h (k + 1)) h64
  have hk0 : tkN l k < 18446744073709551616 := Nat.lt_of_le_of_lt (by rw [tkN]; omega) hk1
  have e1 : l.getD k 0 * 2 ^ (8 * k) = (((l.getD k 0).toNat * 256 ^ k : Nat) : Int) := by
    rw [Int.natCast_mul, hd, ← pow8]; rfl
  rw [e1, nat64 hp, wrap_n64, ofInt_n64, nat64 hk0, n64_or, nat64 hk1]
  congr 1
  apply BitVec.eq_of_toNat_eq
  rw [BitVec.toNat_or, BitVec.toNat_ofNat, BitVec.toNat_ofNat, BitVec.toNat_ofNat, Nat.mod_eq_of_lt hk0, Nat.mod_eq_of_lt hp, Nat.mod_eq_of_lt hk1, tkN, Nat.or_comm, Nat.mul_comm, ← pow8, ← Nat.two_pow_add_eq_or_of_lt (by rw [pow8]; exact hlt)]
  omega

set_option maxHeartbeats 1000000 in
theorem take_short {l : List Int} (h : AllB l) (hyp : l.length ≤ 8) (hl : l.length ≤ 140737488355328) (v : Value) (w : World) (hv : Byt w v l) :
    Calls Try.prog 35 #[v] w fun e w' => e = .returned (.int .u64 ((tk l : Nat) : Int)) ∧ w' = w := by
  have HT : Hid (tk l = tkN l l.length) := by unfold Hid tk; rw [show min l.length 8 = l.length by omega]
  obtain ⟨a, cap, rfl, hc, _, hr⟩ := hv
  have HB : Hid (AllB l) := h
  have HR : Hid (l ≠ [] → ∃ g off, a = some ⟨g, off, none⟩ ∧ g < w.heap.size ∧ ∀ j, j < l.length → w.cell? ⟨g, off + j, none⟩ = some (.int .u8 (l.getD j 0))) := hr
  clear h hr
  have hs : (l.length : Int) ≤ 8 := by omega
  go_enter Try.func35, Try.ntmps35
  go_wp2
  go_loopw [3, 8] (fun v i wr => ∃ k : Nat, k ≤ l.length ∧ i = .int .i64 k ∧ v = .int .u64 ((tkN l k : Nat) : Int) ∧ wr = w) (fun _ i _ => l.length - (intOf i).toNat)
  case atStart => exact ⟨0, Nat.zero_le _, rfl, rfl, rfl⟩
  case round =>
    obtain ⟨k, hk, rfl, rfl, rfl⟩ := hrel
    by_cases hlt : k < l.length
    · obtain ⟨g, off, rfl, _, hcell⟩ := HR.out (by intro e; have := congrArg List.length e; simp only [List.length_nil] at this; omega)
      have hk8 : k < 8 := by omega
      have hkl : k < l.length := by omega
      have hkl2 : (k : Int) < (l.length : Int) := by omega
      have hk82 : (k : Int) < 8 := by omega
      have hce := hcell k hkl
      have hby := getD_byte HB.out k
      have HS := take_step HB.out k hk8
      have HS' : Hid (bits .or .u64 ((tkN l k : Nat) : Int) (IntKind.u64.wrap (l.getD k 0 * 2 ^ (8 * k))) = ((tkN l (k + 1) : Nat) : Int)) := HS
      clear HS hcell
      obtain ⟨z, hz⟩ : ∃ z, z = l.getD k 0 := ⟨_, rfl⟩
      rw [← hz] at hce hby
      have HZ : Hid (z = l.getD k 0) := hz
      clear hz
      obtain ⟨M, hM⟩ : ∃ M, M = tkN l k := ⟨_, rfl⟩
      rw [← hM]
      have HM : Hid (M = tkN l k) := hM
      clear hM
      go_wp2
      go_roundw
      case rel => exact ⟨k + 1, by omega, by go_num, by rw [← HS'.out, ← HZ.out, ← HM.out], trivial⟩
      case measure => simp [intOf]; omega
    · have hkn : k = l.length := by omega
      subst hkn
      go_wp2
      go_ret
      exact ⟨ret_int (by rw [HT.out]), rfl⟩
/-- A row half written. -/
def hw (N n k : Nat) : List Int := ptL N k ++ List.replicate (n - k) 0
theorem hw_length (N n k : Nat) (h : k ≤ n) : (hw N n k).length = n := by simp [hw, ptL_length]; omega
theorem hw_zero (N n : Nat) : hw N n 0 = List.replicate n 0 := by simp [hw, ptL]
theorem hw_full (N n : Nat) : hw N n n = ptL N n := by simp [hw]
theorem hw_set (N n k : Nat) (h : k < n) : (hw N n k).set k ((N / 256 ^ k % 256 : Nat) : Int) = hw N n (k + 1) := by
  unfold hw
  rw [List.set_append_right _ _ (by rw [ptL_length]; exact Nat.le_refl _), ptL_length, Nat.sub_self, ptL_succ, List.append_assoc]
  congr 1
  obtain ⟨d, hd⟩ : ∃ d, n - k = d + 1 := ⟨n - k - 1, by omega⟩
  rw [hd, List.replicate_succ, show n - (k + 1) = d by omega]
  rfl
theorem byte_of (x : BitVec 64) (k : Nat) : IntKind.u8.wrap (n64 x / 2 ^ (8 * k)) = ((x.toNat / 256 ^ k % 256 : Nat) : Int) := by
  unfold n64
  rw [show ((2 : Int) ^ (8 * k)) = (((2 : Nat) ^ (8 * k) : Nat) : Int) by simp, ← Int.natCast_ediv, pow8]
  generalize x.toNat / 256 ^ k = M
  simp [IntKind.wrap, IntKind.signed, IntKind.bits]
set_option maxHeartbeats 1000000 in
theorem put_mid (x : BitVec 64) (n : Nat) (h0 : 0 < n) (h8 : n ≤ 8) (w : World) :
    Calls Try.prog 25 #[.int .u64 (n64 x), .int .i64 (n : Int)] w fun e w' => e = .returned (.slice (some ⟨w.heap.size, 0, none⟩) n n) ∧ w'.ownsRow w.heap.size 5 1 (.slice (some ⟨w.heap.size, 0, none⟩) n n) n (bv (ptL x.toNat n)) ∧ Below w.heap.size w w' := by
  obtain ⟨i0, hi, hz0, hz1, hz2⟩ := info_parts info5
  have HI : Hid (Try.prog.info? 5 = some i0) := hi
  have HZ0 : Hid (i0.zero = some (.int .u8 0)) := hz0
  have HZ1 : Hid (i0.size = 1) := hz1
  have HZ2 : Hid (i0.bytes = 1) := hz2
  clear hi hz0 hz1 hz2
  have f1 : (n : Int) ≤ 8 := by omega
  have f2 : (0 : Int) < (n : Int) := by omega
  go_enter Try.func25, Try.ntmps25
  go_wp2_with (at_make; refine wpList_make_full _ (by rfl) _ _ 32 (by rfl) w.heap.size 5 i0 (.int .u8 0) 1 Try.underlying32 HI.out HZ0.out HZ1.out _ _ _ _ n (by rfl) (by rfl) (by omega) (by omega) (by rw [HZ2.out]; omega) (by unfold maxLen; omega) (Nat.le_refl _) ?_; intro w1 hown hgrow)
  have HO : Hid (w1.ownsRow w.heap.size 5 1 (.slice (some ⟨w.heap.size, 0, none⟩) n n) n (bv (hw x.toNat n 0))) := by
    have h := hown; rw [show (Value.int .u8 0).cells = #[Value.int .u8 0] from rfl, made_bv] at h; rw [hw_zero]; exact h
  have HB : Hid (Below w.heap.size w w1) := (Below.refl _ _).grown hgrow (Nat.le_refl _) (fun k hk => by cases hk)
  clear hown hgrow
  obtain ⟨B, hB⟩ : ∃ B, B = w.heap.size := ⟨_, rfl⟩
  have HB0 : Hid (B = w.heap.size) := hB
  clear hB
  rw [← HB0.out] at HO HB ⊢
  go_wp2
  go_loopw [13] (fun i wr => ∃ k : Nat, k ≤ n ∧ i = .int .i64 k ∧ Hid (wr.ownsRow B 5 1 (.slice (some ⟨B, 0, none⟩) n n) n (bv (hw x.toNat n k))) ∧ Hid (Below B w wr)) (fun i _ => n - (intOf i).toNat)
  case atStart => exact ⟨0, Nat.zero_le _, rfl, HO, HB⟩
  case round =>
    obtain ⟨k, hk, rfl, hown, hbel⟩ := hrel
    clear HO HB
    by_cases hlt : k < n
    · have hlt2 : (k : Int) < (n : Int) := by omega
      have hlt8 : (k : Int) < 8 := by omega
      have hce : wr.cell? ⟨B, k, none⟩ = some (.int .u8 ((hw x.toNat n k).getD k 0)) := by
        rw [hown.out.cellAt k (by omega), bv_get _ _ (by rw [hw_length _ _ _ (by omega)]; omega)]
      have hfr := hown.out.frozenAt k
      have HW : Hid (IntKind.u8.wrap (n64 x / 2 ^ (8 * k)) = ((x.toNat / 256 ^ k % 256 : Nat) : Int)) := byte_of x k
      obtain ⟨zz, hzz⟩ : ∃ zz, zz = (hw x.toNat n k).getD k 0 := ⟨_, rfl⟩
      rw [← hzz] at hce
      clear hzz
      go_wp2
      go_roundw
      case rel =>
        refine ⟨k + 1, by omega, by go_num, ?_, ?_⟩
        · have h1 := (hown.out.stored k (.int .u8 (IntKind.u8.wrap (n64 x / 2 ^ (8 * k))))).1
          rw [bv_set, HW.out, hw_set _ _ _ hlt] at h1
          unfold Hid
          rw [← HW.out] at h1
          exact h1
        · exact Below.setCell hbel.out (Nat.le_refl _) _
      case measure => simp [intOf]; omega
    · have hkn : k = n := by omega
      subst hkn
      rw [hw_full] at hown
      go_wp2
      go_ret
      have hB := HB0.out
      subst hB
      exact ⟨rfl, hown.out, hbel.out⟩
/-- A list of bytes that is a block of its own, new. -/
def Fsh (B : Nat) (w : World) (v : Value) (l : List Int) : Prop := ∃ g, v = .slice (some ⟨g, 0, none⟩) l.length l.length ∧ B ≤ g ∧ Row w g (bv l).toArray 5
theorem Fsh.byt {B : Nat} {w : World} {v : Value} {l : List Int} (h : Fsh B w v l) : Byt w v l := by
  obtain ⟨g, rfl, hB, hr⟩ := h
  exact ⟨some ⟨g, 0, none⟩, l.length, rfl, Nat.le_refl _, (fun e => by cases e), fun _ => ⟨g, 0, rfl, hr.lt, fun j hj => by rw [Nat.zero_add, hr.cell, List.getElem?_toArray, bv_get _ _ hj]⟩⟩
theorem Fsh.later {B : Nat} {w w' : World} {v : Value} {l : List Int} (h : Fsh B w v l) (hb : Below w.heap.size w w') : Fsh B w' v l := by
  obtain ⟨g, rfl, hB, hr⟩ := h
  exact ⟨g, rfl, hB, hr.later hb hr.lt⟩
theorem Fsh.mono {B B' : Nat} {w : World} {v : Value} {l : List Int} (h : Fsh B w v l) (hb : B' ≤ B) : Fsh B' w v l := by
  obtain ⟨g, e, hB, hr⟩ := h
  exact ⟨g, e, Nat.le_trans hb hB, hr⟩
theorem Fsh.exc {B : Nat} {S : Nat → Prop} {w w' : World} {v : Value} {l : List Int} (h : Fsh B w v l) (hx : Exc S w w') (hS : ∀ g, v.ownBlock = some g → ¬ S g) : Fsh B w' v l := by
  obtain ⟨g, rfl, hB, hr⟩ := h
  exact ⟨g, rfl, hB, (hx.block g hr.lt (hS g rfl)).trans hr⟩
theorem fsh_own {B : Nat} {w : World} {n g : Nat} {l : List Int} (hn : l.length = n) (h : w.ownsRow B 5 1 (.slice (some ⟨g, 0, none⟩) n n) n (bv l)) : Fsh B w (.slice (some ⟨g, 0, none⟩) n n) l := by
  subst hn
  rcases h.2 with ⟨h', _⟩ | ⟨g', cap', cur, h', h1, h2, h3, h4, h5, h6⟩
  · simp at h'
  · simp only [Value.slice.injEq, Option.some.injEq, Addr.mk.injEq] at h'
    obtain ⟨⟨rfl, _, _⟩, _, rfl⟩ := h'
    refine ⟨g, rfl, h1, ?_⟩
    have e : cur = (bv l).toArray := by
      rw [← h6, List.take_of_length_le (by rw [Array.length_toList]; omega)]
    rw [← e]; exact h2
/-- Bytes put into a row of bytes. -/
def put_at (m : List Int) (p : Nat) (l : List Int) : List Int := m.take p ++ (l ++ m.drop (p + l.length))
theorem put_at_length (m : List Int) (p : Nat) (l : List Int) (h : p + l.length ≤ m.length) : (put_at m p l).length = m.length := by simp [put_at]; omega
theorem put_at_nil (m : List Int) (p : Nat) : put_at m p [] = m := by simp [put_at]
theorem bv_put (m : List Int) (p : Nat) (l : List Int) : ((bv m).take p ++ (bv l ++ (bv m).drop (p + (bv l).length))) = bv (put_at m p l) := by simp [bv, put_at, List.map_take, List.map_drop]
theorem goInt_nat (n : Nat) : goInt n = .int .i64 n := rfl
theorem run_copy_b {w : World} {ty : TypeId} {ad : Option Addr} {g p dl dc : Nat} {x : Value} {m l : List Int} (hr : Row w g (bv m).toArray 5) (hx : Byt w x l) (hd : l ≠ [] → ad = some ⟨g, p, none⟩) (hl : l.length ≤ dl) (hp : p + l.length ≤ m.length) :
    ∃ w2, (Builtin.copy_ #[32, 32] ty #[.slice ad dl dc, x]).run Try.prog w = .ok (goInt l.length) w2 ∧ Row w2 g (bv (put_at m p l)).toArray 5 ∧ Exc (· = g) w w2 := by
  have hs1 : ((Try.prog).info? 5).map (·.size) = some 1 := by kernel_rfl
  obtain ⟨ao, cap, rfl, hc, hc0, hcell⟩ := hx
  by_cases hnil : l = []
  · subst hnil
    exact ⟨w, Go.run_copy_none (P := Try.prog) w 32 32 ty 5 ad ao dl dc 0 cap Try.underlying32 hs1 (by simp), by rw [put_at_nil]; exact hr, Exc.refl _ _⟩
  · obtain ⟨g2, off, rfl, hgs, hcells⟩ := hcell hnil
    have hbl : (bv l).length = l.length := by simp [bv]
    obtain rfl := hd hnil
    have hrun := Go.run_copy_row (P := Try.prog) w 32 32 ty 5 g p dl dc ⟨g2, off, none⟩ l.length cap (bv m).toArray 5 (bv l) Try.underlying32 hs1 hr (by rw [hbl]; exact (Nat.min_eq_left hl).symm) (fun j v hj => by
      have hjl : j < l.length := by have := (List.getElem?_eq_some_iff.1 hj).1; rw [hbl] at this; exact this
      rw [bv_get l j hjl] at hj
      cases hj
      rw [addAt]
      exact hcells j hjl) (by simp [bv]; omega) (fun v hv => by simp [bv] at hv; obtain ⟨q, _, rfl⟩ := hv; rfl)
    have e : (((bv m).toArray.toList.take p ++ (bv l) ++ (bv m).toArray.toList.drop (p + (bv l).length)).toArray) = (bv (put_at m p l)).toArray := by
      rw [List.append_assoc]; exact congrArg List.toArray (bv_put m p l)
    rw [e, hbl] at hrun
    exact ⟨w.setRow g (bv (put_at m p l)).toArray, hrun, setRow_heap _ _ _ _ _ _ hr, ⟨rfl, rfl, rfl, by simp, fun k _ h => Go.setRow_other w g k _ h⟩⟩
theorem wpList_copy_b {ops : Array Oper} {rest : List Oper} {o : Oper} {a : Act} {w : World} {Q : Exit → Act → World → Prop} (hgd : o.guard = none) (d s : Operand) (ho : o.op = .call { callee := .builtin .copy, args := #[d, s], argTypes := #[32, 32] })
    (g p dl dc : Nat) (ad : Option Addr) (x : Value) (m l : List Int) (hd : a.eval d = .slice ad dl dc) (hs : a.eval s = x) (hr : Row w g (bv m).toArray 5) (hx : Byt w x l) (hda : l ≠ [] → ad = some ⟨g, p, none⟩) (hl : l.length ≤ dl) (hp : p + l.length ≤ m.length)
    (h : ∀ w2, Row w2 g (bv (put_at m p l)).toArray 5 → Exc (· = g) w w2 → wpList Try.prog ops Q rest (a.put o.dst (.int .i64 l.length)) w2) : wpList Try.prog ops Q (o :: rest) a w := by
  refine wpList_plain hgd fun K hK => ?_
  obtain ⟨w2, hrun, h1, h2⟩ := run_copy_b (ty := o.type) (dc := dc) hr hx hda hl hp
  unfold Oper.wp
  simp only [execOp, ho]
  simp [resolve, invoke, builtin, hd, hs, hrun, Result.andThen]
  exact hK _ _ (h w2 h1 h2)
section
variable (W : World) (a : Option Addr) (len cap : Nat)
theorem elemB : Try.prog.elem 32 = 5 := by kernel_rfl
theorem undB : Try.prog.underlying 32 = some (.slice (Try.prog.elem 32)) := by rw [elemB]; exact Try.underlying32
theorem sizeB (w : World) : (Go.sizeOf 5).run Try.prog w = .ok 1 w := by kernel_rfl
theorem sl_l (l : Nat) (h : l ≤ len) : (Instr.slice 32 (.slice a len cap) (some (.int .i64 (l : Int))) none none).run Try.prog W = .ok (.slice (if cap = l then a else a.map (fun x => x.add l)) (len - l) (cap - l)) W := by
  rw [run_slice_l W _ _ _ _ undB .i64 _ (by omega) (by omega), elemB, sizeB]
  simp [Result.andThen, sliced]
theorem sl_h (h : Nat) (h2 : h ≤ cap) : (Instr.slice 32 (.slice a len cap) none (some (.int .i64 (h : Int))) none).run Try.prog W = .ok (.slice (if cap = 0 then a else a.map (fun x => x.add 0)) h cap) W := by
  rw [run_slice_h W _ _ _ _ undB .i64 _ (by omega) (by omega), elemB, sizeB]
  simp [Result.andThen, sliced]
theorem sl_hm (h m : Nat) (h1 : h ≤ m) (h2 : m ≤ cap) : (Instr.slice 32 (.slice a len cap) none (some (.int .i64 (h : Int))) (some (.int .i64 (m : Int)))).run Try.prog W = .ok (.slice (if m = 0 then a else a.map (fun x => x.add 0)) h m) W := by
  rw [run_slice_hm W _ _ _ _ undB .i64 .i64 _ _ (by omega) (by omega) (by omega), elemB, sizeB]
  simp [Result.andThen, sliced]
theorem sl_lh (l h : Nat) (h0 : l ≤ h) (h2 : h ≤ cap) : (Instr.slice 32 (.slice a len cap) (some (.int .i64 (l : Int))) (some (.int .i64 (h : Int))) none).run Try.prog W = .ok (.slice (if cap = l then a else a.map (fun x => x.add l)) (h - l) (cap - l)) W := by
  rw [run_slice_lh W _ _ _ _ undB .i64 .i64 _ _ (by omega) (by omega) (by omega), elemB, sizeB]
  simp [Result.andThen, sliced]
theorem sl_lhm (l h m : Nat) (h0 : l ≤ h) (h1 : h ≤ m) (h2 : m ≤ cap) : (Instr.slice 32 (.slice a len cap) (some (.int .i64 (l : Int))) (some (.int .i64 (h : Int))) (some (.int .i64 (m : Int)))).run Try.prog W = .ok (.slice (if m = l then a else a.map (fun x => x.add l)) (h - l) (m - l)) W := by
  rw [run_slice_lhm W _ _ _ _ undB .i64 .i64 .i64 _ _ _ (by omega) (by omega) (by omega) (by omega), elemB, sizeB]
  simp [Result.andThen, sliced]
end
/-- A part of bytes in memory. -/
theorem Byt.cut {w : World} {a : Option Addr} {len cap : Nat} {b : List Int} (h : Byt w (.slice a len cap) b) (l e m : Nat) (h0 : l ≤ e) (h1 : e ≤ m) (h2 : m ≤ cap) (h3 : e ≤ b.length) : Byt w (.slice (if m = l then a else a.map (fun x => x.add l)) (e - l) (m - l)) ((b.drop l).take (e - l)) := by
  obtain ⟨a', cap', e', k1, k2, k3⟩ := h
  cases e'
  have hl : ((b.drop l).take (e - l)).length = e - l := by simp; omega
  refine ⟨if m = l then a else a.map (fun x => x.add l), m - l, by rw [hl], by rw [hl]; omega, fun he => ?_, fun hne => ?_⟩
  · by_cases e : m = l
    · omega
    · rw [if_neg e] at he
      have : a = none := by cases a <;> simp_all
      have := k2 this
      omega
  · have hn : l < e := by
      rcases Nat.lt_or_ge l e with q | q
      · exact q
      · rw [show e - l = 0 by omega] at hne; simp at hne
    obtain ⟨g, off, rfl, h4, h5⟩ := k3 (by intro e; rw [e] at h3; simp at h3; omega)
    rw [if_neg (by omega)]
    refine ⟨g, off + l, by simp [addAt], h4, fun j hj => ?_⟩
    rw [hl] at hj
    rw [Nat.add_assoc, h5 _ (by omega)]
    simp [hj]
theorem Byt.len {w : World} {v : Value} {b : List Int} (h : Byt w v b) : ∃ a cap, v = .slice a b.length cap ∧ b.length ≤ cap := by
  obtain ⟨a, cap, e, h1, _⟩ := h
  exact ⟨a, cap, e, h1⟩
theorem put_c (x : BitVec 64) (n : Nat) (h0 : 0 < n) (h8 : n ≤ 8) (w : World) :
    Calls Try.prog 25 #[.int .u64 (n64 x), .int .i64 (n : Int)] w fun e w' => ∃ u, e = .returned u ∧ Fsh w.heap.size w' u (ptL x.toNat n) ∧ Below w.heap.size w w' :=
  (put_mid x n h0 h8 w).mono fun e w' ⟨h1, h2, h3⟩ => ⟨_, h1, fsh_own (ptL_length _ _) h2, h3⟩
def fl (b : Bool) : Int := if b then 1 else 0
theorem sflag_c (b : Bool) (w : World) : Calls Try.prog 43 #[.bool b] w fun e w' => e = .returned (.int .u8 (fl b)) ∧ w' = w := by
  cases b
  · go_enter Try.func43, Try.ntmps43
    go_wp2
    go_ret
    exact ⟨rfl, rfl⟩
  · go_enter Try.func43, Try.ntmps43
    go_wp2
    go_ret
    exact ⟨rfl, rfl⟩
end Go.Proofs.Ytgblpjkpeihpeaa
