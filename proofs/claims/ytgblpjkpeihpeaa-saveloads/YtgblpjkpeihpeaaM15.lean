/-
  Hs Ht.
-/
import Derived.Test.YtgblpjkpeihpeaaM14
namespace Go.Proofs.Ytgblpjkpeihpeaa
set_option linter.unusedVariables false
set_option maxRecDepth 100000
open Go.ChangeShapes Go.WideShapes Go.ChangeAt Go.RowKit Go.Deep
def n32 (x : BitVec 32) : Int := (x.toNat : Int)
theorem n32_lo (x : BitVec 32) : 0 ≤ n32 x := by unfold n32; omega
theorem n32_hi (x : BitVec 32) : n32 x < 4294967296 := by unfold n32; have := x.isLt; omega
theorem ofInt_n32 (x : BitVec 32) : BitVec.ofInt 32 (n32 x) = x := by
  unfold n32
  apply BitVec.eq_of_toNat_eq
  rw [BitVec.toNat_ofInt]
  have := x.isLt
  omega
theorem wrap_n32 (x : BitVec 32) : IntKind.u32.wrap (n32 x) = n32 x := by
  show n32 x % 4294967296 = n32 x
  have := x.isLt
  unfold n32; omega
theorem n32_and (x y : BitVec 32) : bits .and .u32 (n32 x) (n32 y) = n32 (x &&& y) := by
  show IntKind.u32.wrap ((BitVec.ofInt 32 (n32 x) &&& BitVec.ofInt 32 (n32 y)).toNat : Int) = _
  rw [ofInt_n32, ofInt_n32]; exact wrap_n32 _
theorem n32_xor (x y : BitVec 32) : bits .xor .u32 (n32 x) (n32 y) = n32 (x ^^^ y) := by
  show IntKind.u32.wrap ((BitVec.ofInt 32 (n32 x) ^^^ BitVec.ofInt 32 (n32 y)).toNat : Int) = _
  rw [ofInt_n32, ofInt_n32]; exact wrap_n32 _
theorem n32_xor' (x : BitVec 32) (b : Int) : bits .xor .u32 (n32 x) b = n32 (x ^^^ BitVec.ofInt 32 b) := by
  show IntKind.u32.wrap ((BitVec.ofInt 32 (n32 x) ^^^ BitVec.ofInt 32 b).toNat : Int) = _
  rw [ofInt_n32]; exact wrap_n32 _
theorem n32_xorm (x : BitVec 32) (b : Int) : bits .xor .u32 (n32 x) (b % 4294967296) = n32 (x ^^^ BitVec.ofInt 32 b) := by
  rw [n32_xor']
  congr 2
  apply BitVec.eq_of_toNat_eq
  rw [BitVec.toNat_ofInt, BitVec.toNat_ofInt]
  omega
theorem n32_shr (x : BitVec 32) (k : Nat) : n32 x / 2 ^ k = n32 (x >>> k) := by
  unfold n32; rw [BitVec.toNat_ushiftRight, Nat.shiftRight_eq_div_pow, Int.natCast_ediv, Int.natCast_pow]; rfl
/-- The sum moved by one bit. -/
def cst (x : BitVec 32) : BitVec 32 := if x &&& 1#32 = 1#32 then (x >>> 1) ^^^ 3988292384#32 else x >>> 1
def cstN (x : BitVec 32) : Nat → BitVec 32
  | 0 => x
  | k + 1 => cst (cstN x k)
theorem and_one (x : BitVec 32) : x &&& 1#32 = if x.getLsbD 0 then 1#32 else 0#32 := by
  apply BitVec.eq_of_getLsbD_eq
  intro i hi
  rw [BitVec.getLsbD_and]
  cases i with
  | zero => cases x.getLsbD 0 <;> simp
  | succ i => cases x.getLsbD 0 <;> simp
theorem cst_bit (x : BitVec 32) : cst x = (x >>> 1) ^^^ (if x.getLsbD 0 then 3988292384#32 else 0#32) := by
  unfold cst
  rw [and_one]
  cases h : x.getLsbD 0 <;> simp
theorem cst_xor (x y : BitVec 32) : cst (x ^^^ y) = cst x ^^^ cst y := by
  rw [cst_bit, cst_bit, cst_bit, BitVec.getLsbD_xor, BitVec.ushiftRight_xor_distrib]
  cases x.getLsbD 0 <;> cases y.getLsbD 0 <;> simp
  · ac_rfl
  · ac_rfl
  · rw [show (x >>> 1 ^^^ 3988292384#32 ^^^ (y >>> 1 ^^^ 3988292384#32)) = (x >>> 1 ^^^ y >>> 1) ^^^ (3988292384#32 ^^^ 3988292384#32) by ac_rfl, BitVec.xor_self, BitVec.xor_zero]
theorem cst_even (x : BitVec 32) (h : x.toNat % 2 = 0) : cst x = x >>> 1 := by
  rw [cst_bit]
  have : x.getLsbD 0 = false := by
    rw [BitVec.getLsbD, Nat.testBit_zero]; simp; omega
  rw [this]; simp
theorem cstN_xor (x y : BitVec 32) : ∀ k, cstN (x ^^^ y) k = cstN x k ^^^ cstN y k
  | 0 => rfl
  | k + 1 => by rw [cstN, cstN_xor x y k, cst_xor]; rfl
theorem cst4_high (x : BitVec 32) (h : x.toNat % 16 = 0) : cstN x 4 = x >>> 4 := by
  have s : ∀ (y : BitVec 32) k, (y >>> k).toNat = y.toNat / 2 ^ k := fun y k => by rw [BitVec.toNat_ushiftRight, Nat.shiftRight_eq_div_pow]
  show cst (cst (cst (cst x))) = _
  rw [cst_even x (by omega), cst_even (x >>> 1) (by rw [s]; omega), ← BitVec.shiftRight_add, cst_even (x >>> (1 + 1)) (by rw [s]; omega), ← BitVec.shiftRight_add, cst_even (x >>> (1 + 1 + 1)) (by rw [s]; omega), ← BitVec.shiftRight_add]
theorem split16 (x : BitVec 32) : x = (x &&& ~~~15#32) ^^^ (x &&& 15#32) := by
  apply BitVec.eq_of_getLsbD_eq
  intro i hi
  rw [BitVec.getLsbD_xor, BitVec.getLsbD_and, BitVec.getLsbD_and, BitVec.getLsbD_not]
  cases x.getLsbD i <;> cases (15#32).getLsbD i <;> simp [hi]
theorem cst4_tab (x : BitVec 32) : cstN x 4 = (x >>> 4) ^^^ cstN (x &&& 15#32) 4 := by
  have h1 : (x &&& ~~~15#32).toNat % 16 = 0 := by
    have : ∀ i, i < 4 → (x &&& ~~~15#32).getLsbD i = false := by
      intro i hi
      rw [BitVec.getLsbD_and, BitVec.getLsbD_not]
      match i, hi with
      | 0, _ => simp
      | 1, _ => simp
      | 2, _ => simp
      | 3, _ => simp
    apply Nat.eq_of_testBit_eq
    intro j
    rw [show (16 : Nat) = 2 ^ 4 from rfl, Nat.testBit_mod_two_pow, Nat.zero_testBit]
    by_cases hj : j < 4
    · have := this j hj
      rw [BitVec.getLsbD] at this
      rw [this]; simp
    · simp [hj]
  have h2 : (x &&& ~~~15#32) >>> 4 = x >>> 4 := by
    apply BitVec.eq_of_getLsbD_eq
    intro i hi
    rw [BitVec.getLsbD_ushiftRight, BitVec.getLsbD_ushiftRight, BitVec.getLsbD_and, BitVec.getLsbD_not]
    have h15 : (15#32).getLsbD (4 + i) = false := by
      rw [BitVec.getLsbD, BitVec.toNat_ofNat]
      apply Nat.testBit_lt_two_pow
      calc 15 % 2 ^ 32 < 2 ^ 4 := by decide
        _ ≤ 2 ^ (4 + i) := Nat.pow_le_pow_right (by decide) (by omega)
    rw [h15]
    by_cases h : 4 + i < 32
    · simp [h]
    · rw [BitVec.getLsbD_of_ge x (4 + i) (by omega)]; simp
  conv => lhs; rw [split16 x, cstN_xor, cst4_high _ h1, h2]
/-- A byte taken in. -/
def cby (x : BitVec 32) (b : Int) : BitVec 32 := cstN (cstN (x ^^^ BitVec.ofInt 32 b) 4) 4
def crc (l : List Int) : BitVec 32 := l.foldl cby 4294967295#32
def sumB (l : List Int) : BitVec 32 := ~~~ (crc l)
theorem crc_take (l : List Int) (k : Nat) (h : k < l.length) : crc (l.take (k + 1)) = cby (crc (l.take k)) (l.getD k 0) := by
  unfold crc
  rw [List.take_add_one, List.foldl_append]
  simp [h]
/-- The program's table, made as far as k. -/
def tnc (k : Nat) (v : Int) (i : Nat) : Value := .int .u32 (if i < k then n32 (cstN (BitVec.ofNat 32 i) 4) else if i = k then v else 0)
def tnR (k : Nat) (v : Int) : Array Value := Array.ofFn (n := 16) fun i => tnc k v i.val
theorem tnR_size (k : Nat) (v : Int) : (tnR k v).size = 16 := by simp [tnR]
theorem tnR_at (k : Nat) (v : Int) (i : Nat) (h : i < 16) : (tnR k v)[i]? = some (tnc k v i) := by simp [tnR, h]
theorem tnR_ext {k k' : Nat} {v v' : Int} (h : ∀ i, i < 16 → tnc k v i = tnc k' v' i) : tnR k v = tnR k' v' := by
  apply Array.ext_getElem?
  intro i
  by_cases hi : i < 16
  · rw [tnR_at _ _ _ hi, tnR_at _ _ _ hi, h i hi]
  · simp [tnR, hi]
theorem tnR_set (k : Nat) (v v' : Int) (hk : k < 16) : (tnR k v).setIfInBounds k (.int .u32 v') = tnR k v' := by
  apply Array.ext_getElem?
  intro i
  rw [Array.getElem?_setIfInBounds]
  by_cases e : k = i
  · subst e
    rw [if_pos rfl, if_pos (by rw [tnR_size]; exact hk), tnR_at _ _ _ hk]
    simp [tnc]
  · rw [if_neg e]
    by_cases hi : i < 16
    · rw [tnR_at _ _ _ hi, tnR_at _ _ _ hi]
      simp [tnc, Ne.symm e]
    · simp [tnR, hi]
theorem tnR_next (k : Nat) : tnR k (n32 (cstN (BitVec.ofNat 32 k) 4)) = tnR (k + 1) 0 := by
  refine tnR_ext fun i hi => ?_
  unfold tnc
  by_cases h1 : i < k
  · rw [if_pos h1, if_pos (by omega)]
  · by_cases h2 : i = k
    · subst h2; rw [if_neg h1, if_pos rfl, if_pos (by omega)]
    · rw [if_neg h1, if_neg h2, if_neg (by omega)]; simp
theorem tnR_ones (k : Nat) (v : Int) : (tnR k v).all (·.oneCell') = true := by
  rw [Array.all_eq_true]; intro i hi; simp [tnR, tnc]; rfl
theorem zero_tn (w : World) : (zeroValue 115).run Try.prog w = .ok (.agg (tnR 0 0)) w := by kernel_rfl
theorem info_tn (k : Nat) (v : Int) : (Try.prog.info? 115).map (·.size) = some (tnR k v).size := by rw [tnR_size]; kernel_rfl
theorem sstep_c (x : BitVec 32) (w : World) : Calls Try.prog 69 #[.int .u32 (n32 x)] w fun e w' => e = .returned (.int .u32 (n32 (cst x))) ∧ w' = w := by
  have b1 : bits .and .u32 (n32 x) 1 = n32 (x &&& 1#32) := n32_and x 1#32
  have b2 : n32 x / (2 : Int) = n32 (x >>> 1) := n32_shr x 1
  have b3 : bits .xor .u32 (n32 (x >>> 1)) 3988292384 = n32 ((x >>> 1) ^^^ 3988292384#32) := n32_xor _ 3988292384#32
  unfold cst
  by_cases h : x &&& 1#32 = 1#32
  · rw [if_pos h]
    have b4 : n32 (x &&& 1#32) = 1 := by rw [h]; rfl
    rw [b4] at b1
    generalize (x >>> 1) ^^^ 3988292384#32 = y at *
    generalize x >>> 1 = z at *
    clear h b4
    go_enter Try.func69, Try.ntmps69
    go_wp2
    go_ret
    exact ⟨rfl, rfl⟩
  · rw [if_neg h]
    have b4 : n32 (x &&& 1#32) = 0 := by
      rw [and_one] at h ⊢
      cases e : x.getLsbD 0
      · rfl
      · rw [e] at h; exact absurd rfl h
    rw [b4] at b1
    generalize x >>> 1 = z at *
    clear h b4 b3
    go_enter Try.func69, Try.ntmps69
    go_wp2
    go_ret
    exact ⟨rfl, rfl⟩
end Go.Proofs.Ytgblpjkpeihpeaa
namespace Go.Proofs.Ytgblpjkpeihpeaa
set_option linter.unusedVariables false
set_option maxRecDepth 100000
open Go.ChangeShapes Go.WideShapes Go.ChangeAt Go.RowKit Go.Deep
set_option maxHeartbeats 2000000 in
theorem turnings_c (w : World) : Calls Try.prog 50 #[] w fun e w' => e = .returned (.agg (tnR 16 0)) ∧ Below w.heap.size w w' := by
  have hz := zero_tn
  have HST : Hid (∀ x W, Calls Try.prog 69 #[.int .u32 (n32 x)] W fun e w' => e = .returned (.int .u32 (n32 (cst x))) ∧ w' = W) := fun x W => sstep_c x W
  obtain ⟨W0, hW0, r0, r1, b0, s0⟩ := start2 w (tnR 0 0) (tnR 0 0) 115 115
  go_enter Try.func50, Try.ntmps50
  go_upto_region 2 with fail
  clear hz hW0 s0
  go_wp2
  go_loopw [3] (fun i wr => ∃ k : Nat, k ≤ 16 ∧ i = .int .i64 k ∧ Hid (Row wr w.heap.size (tnR 0 0) 115) ∧ Hid (Row wr (w.heap.size + 1) (tnR k 0) 115) ∧ Hid (Below w.heap.size w wr)) (fun i _ => 16 - (intOf i).toNat)
  case atStart => exact ⟨0, Nat.zero_le _, rfl, r0, r1, b0⟩
  case round =>
    obtain ⟨k, hk, rfl, q0, q1, qb⟩ := hrel
    clear r0 r1 b0
    by_cases hlt : k < 16
    · have hlt2 : (k : Int) < 16 := by omega
      have hce : wr.cell? ⟨w.heap.size + 1, k, none⟩ = some (.int .u32 0) := by rw [q1.out.cell, tnR_at _ _ _ hlt]; simp [tnc]
      have hfr := q1.out.froz k
      have HK : Hid (((k : Nat) : Int) = n32 (BitVec.ofNat 32 k)) := by unfold Hid n32; rw [BitVec.toNat_ofNat, Nat.mod_eq_of_lt (by omega)]
      go_upto_region 6 with fail
      refine on_W (motive := fun W => Code.wp _ _ _ _ W) (Q := fun W => Row W w.heap.size (tnR 0 0) 115 ∧ Row W (w.heap.size + 1) (tnR k (k : Int)) 115 ∧ Below w.heap.size w W)
        ⟨q0.out.other (by omega) _, by have r := q1.out.put (i := k) (.int .u32 (k : Int)); rw [tnR_set _ _ _ hlt] at r; exact r, below_put qb.out (by omega) _⟩ ?_
      clear hce hfr q0 q1 qb
      rintro W1 ⟨p0, p1, pb⟩
      rw [HK.out] at p1
      have q0 := Hid.mk' p0
      have q1 := Hid.mk' p1
      have qb := Hid.mk' pb
      clear p0 p1 pb
      go_wp2
      go_loopw [10] (fun i wr => ∃ j : Nat, j ≤ 4 ∧ i = .int .i64 j ∧ Hid (Row wr w.heap.size (tnR 0 0) 115) ∧ Hid (Row wr (w.heap.size + 1) (tnR k (n32 (cstN (BitVec.ofNat 32 k) j))) 115) ∧ Hid (Below w.heap.size w wr)) (fun i _ => 4 - (intOf i).toNat)
      case atStart => exact ⟨0, Nat.zero_le _, rfl, q0, q1, qb⟩
      case round =>
        obtain ⟨j, hj, rfl, q0, q1, qb⟩ := hrel
        by_cases hjl : j < 4
        · have hjl2 : (j : Int) < 4 := by omega
          obtain ⟨y, hy⟩ : ∃ y, y = cstN (BitVec.ofNat 32 k) j := ⟨_, rfl⟩
          have HY : Hid (cst y = cstN (BitVec.ofNat 32 k) (j + 1)) := by unfold Hid; rw [hy]; rfl
          rw [← hy] at q1
          clear hy
          have hce : wr.cell? ⟨w.heap.size + 1, k, none⟩ = some (.int .u32 (n32 y)) := by rw [q1.out.cell, tnR_at _ _ _ hlt]; simp [tnc]
          have hfr := q1.out.froz k
          go_wp2_with (go_at_call 69; refine (HST.out y _).mono ?_; rintro e w5 ⟨rfl, hw5⟩; have hw6 := hw5.symm; subst hw6)
          go_roundw
          case rel =>
            refine ⟨j + 1, by omega, by go_num, ?_, ?_, ?_⟩
            · exact q0.out.other (by omega) _
            · have r := q1.out.put (i := k) (.int .u32 (n32 (cst y))); rw [tnR_set _ _ _ hlt] at r; unfold Hid; rw [← HY.out]; exact r
            · exact below_put qb.out (by omega) _
          case measure => simp [intOf]; omega
        · have hj4 : j = 4 := by omega
          subst hj4
          go_wp2
          go_roundw
          case rel =>
            refine ⟨k + 1, by omega, by go_num, q0, ?_, qb⟩
            have := q1.out
            rw [tnR_next] at this
            exact this
          case measure => simp [intOf]; omega
    · have hk16 : k = 16 := by omega
      subst hk16
      have HI := Hid.mk' (info_tn 16 0)
      have HON := Hid.mk' (tnR_ones 16 0)
      have HZ2 : Hid ((tnR 0 0).size = (tnR 16 0).size) := by unfold Hid; rw [tnR_size, tnR_size]
      go_wp2_with (first | (refine wpList_load_row (by rfl) _ _ (by rfl) _ (by rfl) 115 _ (0, 0) _ q1.out Try.underlying115 (by rfl) HI.out ?_) | (refine wpList_store_row (by rfl) _ _ _ (by rfl) (by rfl) _ _ _ (by rfl) (by rfl) q0.out HI.out HZ2.out HON.out ?_))
      refine bodyPost_ret (v := .agg (tnR 16 0)) (results_cell_row Try.results50 _ _ w.heap.size 115 _ (0, 0) _ (by rfl) (setRow_heap _ _ _ _ _ _ q0.out) Try.underlying115 (by rfl) HI.out) rfl ?_
      exact ⟨rfl, below_row qb.out (Nat.le_refl _) _⟩
theorem tab_cell (x : BitVec 32) : ∃ j : Nat, j < 16 ∧ x &&& 15#32 = BitVec.ofNat 32 j ∧ n32 (x &&& 15#32) = (j : Int) := by
  refine ⟨(x &&& 15#32).toNat, ?_, ?_, rfl⟩
  · rw [BitVec.toNat_and]; exact Nat.lt_of_le_of_lt Nat.and_le_right (by decide)
  · apply BitVec.eq_of_toNat_eq; simp
set_option maxHeartbeats 2000000 in
theorem ssum_c (l : List Int) (v : Value) (w : World) (hv : Byt w v l) (hl : l.length ≤ 140737488355328) :
    Calls Try.prog 26 #[v] w fun e w' => e = .returned (.int .u32 (n32 (sumB l))) ∧ Below w.heap.size w w' := by
  have hz := zero_tn
  obtain ⟨a, cap, rfl, hc, _, hr⟩ := hv
  have HR : Hid (l ≠ [] → ∃ g off, a = some ⟨g, off, none⟩ ∧ g < w.heap.size ∧ ∀ j, j < l.length → w.cell? ⟨g, off + j, none⟩ = some (.int .u8 (l.getD j 0))) := hr
  clear hr
  have HT : Hid (∀ W, Calls Try.prog 50 #[] W fun e w' => e = .returned (.agg (tnR 16 0)) ∧ Below W.heap.size W w') := fun W => turnings_c W
  have HI := Hid.mk' (info_tn 16 0)
  have HON := Hid.mk' (tnR_ones 16 0)
  have HZ2 : Hid ((tnR 0 0).size = (tnR 16 0).size) := by unfold Hid; rw [tnR_size, tnR_size]
  go_enter Try.func26, Try.ntmps26
  go_upto_region 2 with (first | (go_at_call 50; refine (HT.out _).mono ?_; rintro e w1 ⟨rfl, hb1⟩; have HB1 := Hid.mk' hb1; clear hb1) | (refine wpList_store_new (by rfl) _ _ _ (by rfl) (by rfl) (tnR 0 0) (tnR 16 0) (by rfl) (by rfl) HI.out HZ2.out HON.out ?_))
  clear hz
  refine on_W (motive := fun W => Code.wp _ _ _ _ W) (Q := fun W => Row W w1.heap.size (tnR 16 0) 115 ∧ Below w.heap.size w W)
    ⟨Row.new _ _ _, HB1.out.alloc HB1.out.size _⟩ ?_
  rintro W1 ⟨p1, pb⟩
  have q1 := Hid.mk' p1
  have qb := Hid.mk' pb
  clear p1 pb HB1 HI HON HZ2
  obtain ⟨g, hg⟩ : ∃ g, g = w1.heap.size := ⟨_, rfl⟩
  rw [← hg] at q1 ⊢
  clear hg
  go_wp2
  go_loopw [4, 10] (fun x i wr => ∃ k : Nat, k ≤ l.length ∧ i = .int .i64 k ∧ x = .int .u32 (n32 (crc (l.take k))) ∧ wr = W1) (fun _ i _ => l.length - (intOf i).toNat)
  case atStart => exact ⟨0, Nat.zero_le _, rfl, rfl, rfl⟩
  case round =>
    obtain ⟨k, hk, rfl, rfl, hwr⟩ := hrel
    subst hwr
    by_cases hlt : k < l.length
    · obtain ⟨gl, off, rfl, hgl, hcell⟩ := HR.out (by intro e; rw [e] at hlt; simp at hlt)
      have hlt2 : (k : Int) < (l.length : Int) := by omega
      have hce : wr.cell? ⟨gl, off + k, none⟩ = some (.int .u8 (l.getD k 0)) := (qb.out.cell hgl).trans (hcell k hlt)
      have HCR : Hid (crc (l.take (k + 1)) = cby (crc (l.take k)) (l.getD k 0)) := crc_take l k hlt
      obtain ⟨x, hx⟩ : ∃ x, x = crc (l.take k) := ⟨_, rfl⟩
      obtain ⟨b, hb⟩ : ∃ b, b = l.getD k 0 := ⟨_, rfl⟩
      rw [← hx, ← hb] at HCR
      rw [← hx]
      rw [← hb] at hce
      clear hx hb
      have b1 : bits .xor .u32 (n32 x) (b % 4294967296) = n32 (x ^^^ BitVec.ofInt 32 b) := n32_xorm x b
      have HX : Hid (cby x b = cstN (cstN (x ^^^ BitVec.ofInt 32 b) 4) 4) := rfl
      obtain ⟨y, hy⟩ : ∃ y, y = x ^^^ BitVec.ofInt 32 b := ⟨_, rfl⟩
      rw [← hy] at b1 HX
      clear hy
      obtain ⟨j, hj, hj1, hj2⟩ := tab_cell y
      have c1 : bits .and .u32 (n32 y) 15 = (j : Int) := (n32_and y 15#32).trans hj2
      have c2 : n32 y / (16 : Int) = n32 (y >>> 4) := n32_shr y 4
      have c3 : bits .xor .u32 (n32 (y >>> 4)) (n32 (cstN (BitVec.ofNat 32 j) 4)) = n32 (cstN y 4) := by rw [n32_xor, ← hj1, ← cst4_tab]
      have hce2 : wr.cell? ⟨g, j, none⟩ = some (.int .u32 (n32 (cstN (BitVec.ofNat 32 j) 4))) := by rw [q1.out.cell, tnR_at _ _ _ hj]; simp [tnc, hj]
      obtain ⟨z, hz⟩ : ∃ z, z = cstN y 4 := ⟨_, rfl⟩
      rw [← hz] at c3 HX
      clear hz hj1 hj2
      obtain ⟨i, hi, hi1, hi2⟩ := tab_cell z
      have d1 : bits .and .u32 (n32 z) 15 = (i : Int) := (n32_and z 15#32).trans hi2
      have d2 : n32 z / (16 : Int) = n32 (z >>> 4) := n32_shr z 4
      have d3 : bits .xor .u32 (n32 (z >>> 4)) (n32 (cstN (BitVec.ofNat 32 i) 4)) = n32 (cstN z 4) := by rw [n32_xor, ← hi1, ← cst4_tab]
      have hce3 : wr.cell? ⟨g, i, none⟩ = some (.int .u32 (n32 (cstN (BitVec.ofNat 32 i) 4))) := by rw [q1.out.cell, tnR_at _ _ _ hi]; simp [tnc, hi]
      clear hi1 hi2
      have hj3 : (j : Int) < 16 := by omega
      have hi3 : (i : Int) < 16 := by omega
      generalize y >>> 4 = y4 at *
      generalize z >>> 4 = z4 at *
      generalize n32 (cstN (BitVec.ofNat 32 j) 4) = tj at *
      generalize n32 (cstN (BitVec.ofNat 32 i) 4) = ti at *
      go_wp2
      go_roundw
      case rel => exact ⟨k + 1, by omega, by go_num, by rw [HCR.out, HX.out], trivial⟩
      case measure => simp [intOf]; omega
    · have hkn : k = l.length := by omega
      have HF : Hid (l.take k = l) := by unfold Hid; rw [hkn]; exact List.take_length
      have hz2 : ¬ (k : Int) < (l.length : Int) := by omega
      rw [HF.out]
      have b4 : Hid (bits .xor .u32 IntKind.u32.max (n32 (crc l)) = n32 (sumB l)) := by
        unfold Hid
        rw [show IntKind.u32.max = n32 4294967295#32 from rfl, n32_xor, BitVec.xor_comm]
        unfold sumB
        congr 1
        exact (BitVec.xor_allOnes (x := crc l))
      generalize n32 (crc l) = u at *
      clear hkn hlt
      go_wp2
      all_goals first | (exfalso; rename_i hsg; exact absurd hsg (by decide)) | (go_ret; exact ⟨by rw [← b4.out]; rfl, qb.out⟩)
set_option maxHeartbeats 2000000 in
theorem rsum_c (l : List Int) (v : Value) (w : World) (hv : Byt w v l) (hl : l.length ≤ 140737488355328) :
    Calls Try.prog 32 #[v] w fun e w' => e = .returned (.int .u32 (n32 (sumB l))) ∧ w' = w := by
  obtain ⟨a, cap, rfl, hc, _, hr⟩ := hv
  have HR : Hid (l ≠ [] → ∃ g off, a = some ⟨g, off, none⟩ ∧ g < w.heap.size ∧ ∀ j, j < l.length → w.cell? ⟨g, off + j, none⟩ = some (.int .u8 (l.getD j 0))) := hr
  clear hr
  go_enter Try.func32, Try.ntmps32
  go_wp2
  go_loopw [3, 4] (fun x i wr => ∃ k : Nat, k ≤ l.length ∧ i = .int .i64 k ∧ x = .int .u32 (n32 (crc (l.take k))) ∧ wr = w) (fun _ i _ => l.length - (intOf i).toNat)
  case atStart => exact ⟨0, Nat.zero_le _, rfl, rfl, rfl⟩
  case round =>
    obtain ⟨k, hk, rfl, rfl, hwr⟩ := hrel
    subst hwr
    by_cases hlt : k < l.length
    · obtain ⟨gl, off, rfl, hgl, hcell⟩ := HR.out (by intro e; rw [e] at hlt; simp at hlt)
      have hlt2 : (k : Int) < (l.length : Int) := by omega
      have hce : wr.cell? ⟨gl, off + k, none⟩ = some (.int .u8 (l.getD k 0)) := hcell k hlt
      clear hcell
      have HCR : Hid (crc (l.take (k + 1)) = cby (crc (l.take k)) (l.getD k 0)) := crc_take l k hlt
      obtain ⟨x, hx⟩ : ∃ x, x = crc (l.take k) := ⟨_, rfl⟩
      obtain ⟨b, hb⟩ : ∃ b, b = l.getD k 0 := ⟨_, rfl⟩
      rw [← hx, ← hb] at HCR
      rw [← hx]
      rw [← hb] at hce
      clear hx hb
      have b1 : bits .xor .u32 (n32 x) (b % 4294967296) = n32 (x ^^^ BitVec.ofInt 32 b) := n32_xorm x b
      have HX : Hid (cby x b = cstN (x ^^^ BitVec.ofInt 32 b) 8) := rfl
      obtain ⟨y, hy⟩ : ∃ y, y = x ^^^ BitVec.ofInt 32 b := ⟨_, rfl⟩
      rw [← hy] at b1 HX
      clear hy
      go_wp2
      go_loopw [3, 5] (fun x i wr2 => ∃ j : Nat, j ≤ 8 ∧ i = .int .i64 j ∧ x = .int .u32 (n32 (cstN y j)) ∧ wr2 = wr) (fun _ i _ => 8 - (intOf i).toNat)
      case atStart => exact ⟨0, Nat.zero_le _, rfl, rfl, rfl⟩
      case round =>
        obtain ⟨j, hj, rfl, rfl, hwr2⟩ := hrel
        subst hwr2
        by_cases hjl : j < 8
        · have hjl2 : (j : Int) < 8 := by omega
          obtain ⟨z, hz⟩ : ∃ z, z = cstN y j := ⟨_, rfl⟩
          have HZ : Hid (cst z = cstN y (j + 1)) := by unfold Hid; rw [hz]; rfl
          rw [← hz]
          clear hz
          have hm : n32 z % (2 : Int) = n32 (z &&& 1#32) := by
            unfold n32; rw [BitVec.toNat_and]
            show ((z.toNat : Int)) % 2 = ((z.toNat &&& 1 : Nat) : Int)
            rw [Nat.and_one_is_mod]; omega
          have hd : n32 z / (2 : Int) = n32 (z >>> 1) := n32_shr z 1
          have hx2 : bits .xor .u32 (n32 (z >>> 1)) 3988292384 = n32 ((z >>> 1) ^^^ 3988292384#32) := n32_xor _ 3988292384#32
          have hlo := n32_lo z
          have hw : n32 (z >>> 1) % 4294967296 = n32 (z >>> 1) := wrap_n32 _
          by_cases h1 : z &&& 1#32 = 1#32
          · have HC : Hid (cst z = (z >>> 1) ^^^ 3988292384#32) := by unfold Hid cst; rw [if_pos h1]
            rw [h1, show n32 1#32 = 1 from rfl] at hm
            have hm2 : (n32 z).tmod 2 = 1 := by rw [Int.tmod_eq_emod_of_nonneg hlo]; exact hm
            have hd2 : (n32 z).tdiv 2 = n32 (z >>> 1) := by rw [Int.tdiv_eq_ediv_of_nonneg hlo]; exact hd
            generalize (z >>> 1) ^^^ 3988292384#32 = z2 at *
            generalize z >>> 1 = z1 at *
            clear h1
            go_wp2
            go_roundw
            case rel => exact ⟨j + 1, by omega, by go_num, by rw [← HZ.out, HC.out], trivial⟩
            case measure => simp [intOf]; omega
          · have HC : Hid (cst z = z >>> 1) := by unfold Hid cst; rw [if_neg h1]
            have e0 : z &&& 1#32 = 0#32 := by
              rw [and_one] at h1 ⊢
              cases e : z.getLsbD 0
              · rfl
              · rw [e] at h1; exact absurd rfl h1
            rw [e0, show n32 0#32 = 0 from rfl] at hm
            have hm2 : (n32 z).tmod 2 = 0 := by rw [Int.tmod_eq_emod_of_nonneg hlo]; exact hm
            have hd2 : (n32 z).tdiv 2 = n32 (z >>> 1) := by rw [Int.tdiv_eq_ediv_of_nonneg hlo]; exact hd
            clear hx2
            generalize z >>> 1 = z1 at *
            clear h1 e0
            go_wp2
            go_roundw
            case rel => exact ⟨j + 1, by omega, by go_num, by rw [← HZ.out, HC.out], trivial⟩
            case measure => simp [intOf]; omega
        · have hj8 : j = 8 := by omega
          subst hj8
          go_wp2
          go_roundw
          case rel => exact ⟨k + 1, by omega, by go_num, by rw [HCR.out, HX.out], trivial⟩
          case measure => simp [intOf]; omega
    · have hkn : k = l.length := by omega
      have HF : Hid (l.take k = l) := by unfold Hid; rw [hkn]; exact List.take_length
      have hz2 : ¬ (k : Int) < (l.length : Int) := by omega
      rw [HF.out]
      have b4 : bits .xor .u32 (n32 (crc l)) 4294967295 = n32 (sumB l) := by
        rw [show (4294967295 : Int) = n32 4294967295#32 from rfl, n32_xor]
        unfold sumB
        congr 1
        exact (BitVec.xor_allOnes (x := crc l))
      obtain ⟨t, ht⟩ : ∃ t, t = n32 (sumB l) := ⟨_, rfl⟩
      have HTT := Hid.mk' ht
      rw [← ht] at b4
      clear ht
      generalize n32 (crc l) = u at *
      clear hkn hlt
      go_wp2
      go_ret
      exact ⟨by rw [← HTT.out]; rfl, rfl⟩
end Go.Proofs.Ytgblpjkpeihpeaa
