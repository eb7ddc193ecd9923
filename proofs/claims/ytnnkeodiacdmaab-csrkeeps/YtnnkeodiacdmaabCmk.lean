/-
  What a write leaves of what other numbers tell; what is read, written again: without memory.
-/
import Derived.Test.YtnnkeodiacdmaabCmt
namespace Go.Proofs.Ytnnkeodiacdmaab
set_option linter.unusedVariables false
open Go.ChangeShapes Go.WideShapes Go.ChangeAt Go.RowKit Go.Deep
/-- What Proper makes of the register number j. -/
def prQ (j : Nat) (x : BitVec 64) : BitVec 64 :=
  match j with
  | 0 => stB x
  | 1 => x &&& ~~~2#64
  | 2 => x &&& 2184#64
  | 3 => x &&& 7#64
  | 4 => x &&& 5#64
  | 5 => x &&& 1#64
  | 7 => x &&& ~~~1#64
  | _ => x
theorem prS_at (s : Nat → BitVec 64) (j : Nat) : prS s j = prQ j (s j) := by
  match j with
  | 0 => rfl
  | 1 => rfl
  | 2 => rfl
  | 3 => rfl
  | 4 => rfl
  | 5 => rfl
  | 6 => rfl
  | 7 => rfl
  | j + 8 => rfl
theorem prS_upd (s : Nat → BitVec 64) (i j : Nat) (v : BitVec 64) (h : j ≠ i) : prS (upd s i v) j = prS s j := by
  rw [prS_at, prS_at]; unfold upd; rw [if_neg h]
/-- Which register a number tells (99: none). -/
def sx (n : Int) : Nat := if n = 768 then 0 else if n = 772 then 2 else if n = 773 then 1 else if n = 774 then 3 else if n = 778 then 5 else if n = 800 then 4 else if n = 832 then 6 else if n = 833 then 7 else if n = 834 then 8 else if n = 835 then 9 else if n = 2816 then 10 else if n = 3072 then 10 else if n = 2818 then 11 else if n = 3074 then 11 else 99
theorem TO_same {k k' : Cp} (m t : BitVec 64) (n : Int) (hs : sx n < 12 → k.s (sx n) = k'.s (sx n)) (h0 : n = 928 → cfgR (PC k.c) 0 = cfgR (PC k'.c) 0) (h2 : n = 930 → cfgR (PC k.c) 2 = cfgR (PC k'.c) 2)
    (ha : 944 ≤ n ∧ n ≤ 959 → k.a (n - 944).toNat = k'.a (n - 944).toNat) : TO k m t n = TO k' m t n := by
  have S : ∀ i, i < 12 → sx n = i → k.s i = k'.s i := fun i hi e => by subst e; exact hs hi
  unfold TO
  by_cases q3859 : n = 3859
  · rw [if_pos q3859, if_pos q3859]
  rw [if_neg q3859, if_neg q3859]
  by_cases q768 : n = 768
  · rw [if_pos q768, if_pos q768, S 0 (by omega) (by rw [q768]; decide)]
  rw [if_neg q768, if_neg q768]
  by_cases q769 : n = 769
  · rw [if_pos q769, if_pos q769]
  rw [if_neg q769, if_neg q769]
  by_cases q772 : n = 772
  · rw [if_pos q772, if_pos q772, S 2 (by omega) (by rw [q772]; decide)]
  rw [if_neg q772, if_neg q772]
  by_cases q773 : n = 773
  · rw [if_pos q773, if_pos q773, S 1 (by omega) (by rw [q773]; decide)]
  rw [if_neg q773, if_neg q773]
  by_cases q774 : n = 774
  · rw [if_pos q774, if_pos q774, S 3 (by omega) (by rw [q774]; decide)]
  rw [if_neg q774, if_neg q774]
  by_cases q778 : n = 778
  · rw [if_pos q778, if_pos q778, S 5 (by omega) (by rw [q778]; decide)]
  rw [if_neg q778, if_neg q778]
  by_cases q800 : n = 800
  · rw [if_pos q800, if_pos q800, S 4 (by omega) (by rw [q800]; decide)]
  rw [if_neg q800, if_neg q800]
  by_cases q832 : n = 832
  · rw [if_pos q832, if_pos q832, S 6 (by omega) (by rw [q832]; decide)]
  rw [if_neg q832, if_neg q832]
  by_cases q833 : n = 833
  · rw [if_pos q833, if_pos q833, S 7 (by omega) (by rw [q833]; decide)]
  rw [if_neg q833, if_neg q833]
  by_cases q834 : n = 834
  · rw [if_pos q834, if_pos q834, S 8 (by omega) (by rw [q834]; decide)]
  rw [if_neg q834, if_neg q834]
  by_cases q835 : n = 835
  · rw [if_pos q835, if_pos q835, S 9 (by omega) (by rw [q835]; decide)]
  rw [if_neg q835, if_neg q835]
  by_cases q836 : n = 836
  · rw [if_pos q836, if_pos q836]
  rw [if_neg q836, if_neg q836]
  by_cases q928 : n = 928
  · rw [if_pos q928, if_pos q928, h0 q928]
  rw [if_neg q928, if_neg q928]
  by_cases q930 : n = 930
  · rw [if_pos q930, if_pos q930, h2 q930]
  rw [if_neg q930, if_neg q930]
  by_cases q2816 : n = 2816
  · rw [if_pos q2816, if_pos q2816, S 10 (by omega) (by rw [q2816]; decide)]
  rw [if_neg q2816, if_neg q2816]
  by_cases q3072 : n = 3072
  · rw [if_pos q3072, if_pos q3072, S 10 (by omega) (by rw [q3072]; decide)]
  rw [if_neg q3072, if_neg q3072]
  by_cases q2818 : n = 2818
  · rw [if_pos q2818, if_pos q2818, S 11 (by omega) (by rw [q2818]; decide)]
  rw [if_neg q2818, if_neg q2818]
  by_cases q3074 : n = 3074
  · rw [if_pos q3074, if_pos q3074, S 11 (by omega) (by rw [q3074]; decide)]
  rw [if_neg q3074, if_neg q3074]
  by_cases q3073 : n = 3073
  · rw [if_pos q3073, if_pos q3073]
  rw [if_neg q3073, if_neg q3073]
  by_cases hw : 944 ≤ n ∧ n ≤ 959
  · rw [if_pos hw, if_pos hw, ha hw]
  · rw [if_neg hw, if_neg hw]
/-- PART 2 -/
theorem VF_congr {x y : Nat → Nat} : ∀ k, (∀ j, j < k → x j = y j) → VF x k = VF y k
  | 0, _ => rfl
  | k + 1, h => by rw [VF, VF, VF_congr k (fun j hj => h j (by omega)), h k (by omega)]
theorem cfgR_0 {c c' : Nat → BitVec 8} (h : ∀ j, j < 8 → c j = c' j) : cfgR c 0 = cfgR c' 0 := by
  show cfgV c 0 = cfgV c' 0
  unfold cfgV
  rw [VF_congr (x := cby c 0) (y := cby c' 0) 8 (fun j hj => by unfold cby; rw [Nat.zero_add, h j hj])]
theorem cfgR_2 {c c' : Nat → BitVec 8} (h : ∀ j, j < 8 → c (8 + j) = c' (8 + j)) : cfgR c 2 = cfgR c' 2 := by
  show cfgV c 8 = cfgV c' 8
  unfold cfgV
  rw [VF_congr (x := cby c 8) (y := cby c' 8) 8 (fun j hj => by unfold cby; rw [h j hj])]
theorem VF_byte (x : Nat → Nat) (hx : ∀ j, x j < 256) (j : Nat) (hj : j < 8) : VF x 8 / 2 ^ (8 * j) % 256 = x j := by
  have h0 := hx 0; have h1 := hx 1; have h2 := hx 2; have h3 := hx 3; have h4 := hx 4; have h5 := hx 5; have h6 := hx 6; have h7 := hx 7
  have e : VF x 8 = x 0 + x 1 * 256 + x 2 * 65536 + x 3 * 16777216 + x 4 * 4294967296 + x 5 * 1099511627776 + x 6 * 281474976710656 + x 7 * 72057594037927936 := by simp [VF]
  rw [e]
  match j, hj with
  | 0, _ => show _ / 1 % 256 = _; omega
  | 1, _ => show _ / 256 % 256 = _; omega
  | 2, _ => show _ / 65536 % 256 = _; omega
  | 3, _ => show _ / 16777216 % 256 = _; omega
  | 4, _ => show _ / 4294967296 % 256 = _; omega
  | 5, _ => show _ / 1099511627776 % 256 = _; omega
  | 6, _ => show _ / 281474976710656 % 256 = _; omega
  | 7, _ => show _ / 72057594037927936 % 256 = _; omega
/-- Eight Cfg bytes as one word. -/
def cfgB (c : Nat → BitVec 8) (f : Nat) : BitVec 64 := BitVec.ofNat 64 (VF (cby c f) 8)
theorem cfgB_n (c : Nat → BitVec 8) (f : Nat) : cfgV c f = n64 (cfgB c f) := by
  unfold cfgV cfgB n64
  rw [BitVec.toNat_ofNat, Nat.mod_eq_of_lt (Nat.lt_of_lt_of_le (VF_lt _ (cby_lt c f) 8) (by decide))]
theorem cfgB_b (c : Nat → BitVec 8) (f j : Nat) (hj : j < 8) : bty (cfgB c f) j = c (f + j) := by
  unfold bty cfgB
  apply BitVec.eq_of_toNat_eq
  rw [BitVec.toNat_setWidth, BitVec.toNat_ushiftRight, BitVec.toNat_ofNat, Nat.mod_eq_of_lt (Nat.lt_of_lt_of_le (VF_lt _ (cby_lt c f) 8) (by decide)), Nat.shiftRight_eq_div_pow]
  exact VF_byte _ (cby_lt c f) j hj
theorem pr_s {p : Cp} (hp : PR p = p) : prS p.s = p.s := congrArg Cp.s hp
theorem pr_c {p : Cp} (hp : PR p = p) : PC p.c = p.c := congrArg Cp.c hp
theorem pr_a {p : Cp} (hp : PR p = p) : PA p.a = p.a := congrArg Cp.a hp
theorem other_s (p : Cp) (hp : PR p = p) (i : Nat) (v m t : BitVec 64) (n : Int) (hne : sx n ≠ i) : TO p m t n = TO (PR { p with s := upd p.s i v }) m t n := by
  refine TO_same m t n (fun _ => ?_) (fun _ => ?_) (fun _ => ?_) (fun _ => ?_)
  · show p.s (sx n) = prS (upd p.s i v) (sx n)
    rw [prS_upd _ _ _ _ hne, pr_s hp]
  · show _ = cfgR (PC (PC p.c)) 0; rw [PC_PC]
  · show _ = cfgR (PC (PC p.c)) 2; rw [PC_PC]
  · show p.a _ = PA p.a _; rw [pr_a hp]
theorem sR_0 (c : Nat → BitVec 8) (v : BitVec 64) (j : Nat) (hj : 8 ≤ j) : sR c 0 v j = c j := by
  unfold sR; rw [if_pos rfl]; unfold sC; rw [if_neg (by omega)]
theorem sR_2 (c : Nat → BitVec 8) (v : BitVec 64) (j : Nat) (hj : j < 8) : sR c 2 v j = c j := by
  unfold sR; rw [if_neg (by decide), if_pos rfl]; unfold sC; rw [if_neg (by omega)]
theorem other_c0 (p : Cp) (hp : PR p = p) (v m t : BitVec 64) (n : Int) (hne : n ≠ 928) : TO p m t n = TO (PR { p with c := sR (PC p.c) 0 v, a := PA p.a }) m t n := by
  refine TO_same m t n (fun _ => ?_) (fun h => absurd h hne) (fun _ => ?_) (fun _ => ?_)
  · show p.s _ = prS p.s _; rw [pr_s hp]
  · show _ = cfgR (PC (PC (sR (PC p.c) 0 v))) 2
    rw [PC_PC]
    refine cfgR_2 fun j hj => ?_
    show pcl (p.c _) = pcl (sR (PC p.c) 0 v _)
    rw [sR_0 _ _ _ (by omega), pr_c hp]
  · show p.a _ = PA (PA p.a) _; rw [PA_PA, pr_a hp]
theorem other_c2 (p : Cp) (hp : PR p = p) (v m t : BitVec 64) (n : Int) (hne : n ≠ 930) : TO p m t n = TO (PR { p with c := sR (PC p.c) 2 v, a := PA p.a }) m t n := by
  refine TO_same m t n (fun _ => ?_) (fun _ => ?_) (fun h => absurd h hne) (fun _ => ?_)
  · show p.s _ = prS p.s _; rw [pr_s hp]
  · show _ = cfgR (PC (PC (sR (PC p.c) 2 v))) 0
    rw [PC_PC]
    refine cfgR_0 fun j hj => ?_
    show pcl (p.c _) = pcl (sR (PC p.c) 2 v _)
    rw [sR_2 _ _ _ hj, pr_c hp]
  · show p.a _ = PA (PA p.a) _; rw [PA_PA, pr_a hp]
theorem other_a (p : Cp) (hp : PR p = p) (v m t : BitVec 64) (n N : Int) (hN : 944 ≤ N ∧ N ≤ 959) (hne : n ≠ N) : TO p m t n = TO (PR { p with c := PC p.c, a := sA (PC p.c) (PA p.a) (N - 944) v }) m t n := by
  refine TO_same m t n (fun _ => ?_) (fun _ => ?_) (fun _ => ?_) (fun hn => ?_)
  · show p.s _ = prS p.s _; rw [pr_s hp]
  · show _ = cfgR (PC (PC (PC p.c))) 0; rw [PC_PC, PC_PC]
  · show _ = cfgR (PC (PC (PC p.c))) 2; rw [PC_PC, PC_PC]
  · show p.a _ = pad (sA (PC p.c) (PA p.a) (N - 944) v (n - 944).toNat)
    unfold sA
    split
    · show p.a _ = PA (PA p.a) _; rw [PA_PA, pr_a hp]
    · unfold upd; rw [if_neg (by omega)]
      show p.a _ = PA (PA p.a) _; rw [PA_PA, pr_a hp]
/-- Do two numbers tell of one thing? -/
def al (a b : Int) : Bool := decide (a = b) || (decide (a = 2816) && decide (b = 3072)) || (decide (a = 3072) && decide (b = 2816)) || (decide (a = 2818) && decide (b = 3074)) || (decide (a = 3074) && decide (b = 2818))
theorem sx_768 (n : Int) (h : al n 768 = false) : sx n ≠ 0 := by
  have h0 := h
  simp only [al, Bool.or_eq_false_iff, Bool.and_eq_false_iff, decide_eq_false_iff_not] at h
  intro e
  unfold sx at e
  by_cases q768 : n = 768
  · first | (rw [if_pos q768] at e; omega) | exact absurd h0 (by rw [q768]; decide)
  rw [if_neg q768] at e
  by_cases q772 : n = 772
  · first | (rw [if_pos q772] at e; omega) | exact absurd h0 (by rw [q772]; decide)
  rw [if_neg q772] at e
  by_cases q773 : n = 773
  · first | (rw [if_pos q773] at e; omega) | exact absurd h0 (by rw [q773]; decide)
  rw [if_neg q773] at e
  by_cases q774 : n = 774
  · first | (rw [if_pos q774] at e; omega) | exact absurd h0 (by rw [q774]; decide)
  rw [if_neg q774] at e
  by_cases q778 : n = 778
  · first | (rw [if_pos q778] at e; omega) | exact absurd h0 (by rw [q778]; decide)
  rw [if_neg q778] at e
  by_cases q800 : n = 800
  · first | (rw [if_pos q800] at e; omega) | exact absurd h0 (by rw [q800]; decide)
  rw [if_neg q800] at e
  by_cases q832 : n = 832
  · first | (rw [if_pos q832] at e; omega) | exact absurd h0 (by rw [q832]; decide)
  rw [if_neg q832] at e
  by_cases q833 : n = 833
  · first | (rw [if_pos q833] at e; omega) | exact absurd h0 (by rw [q833]; decide)
  rw [if_neg q833] at e
  by_cases q834 : n = 834
  · first | (rw [if_pos q834] at e; omega) | exact absurd h0 (by rw [q834]; decide)
  rw [if_neg q834] at e
  by_cases q835 : n = 835
  · first | (rw [if_pos q835] at e; omega) | exact absurd h0 (by rw [q835]; decide)
  rw [if_neg q835] at e
  by_cases q2816 : n = 2816
  · first | (rw [if_pos q2816] at e; omega) | exact absurd h0 (by rw [q2816]; decide)
  rw [if_neg q2816] at e
  by_cases q3072 : n = 3072
  · first | (rw [if_pos q3072] at e; omega) | exact absurd h0 (by rw [q3072]; decide)
  rw [if_neg q3072] at e
  by_cases q2818 : n = 2818
  · first | (rw [if_pos q2818] at e; omega) | exact absurd h0 (by rw [q2818]; decide)
  rw [if_neg q2818] at e
  by_cases q3074 : n = 3074
  · first | (rw [if_pos q3074] at e; omega) | exact absurd h0 (by rw [q3074]; decide)
  rw [if_neg q3074] at e
  omega
theorem sx_772 (n : Int) (h : al n 772 = false) : sx n ≠ 2 := by
  have h0 := h
  simp only [al, Bool.or_eq_false_iff, Bool.and_eq_false_iff, decide_eq_false_iff_not] at h
  intro e
  unfold sx at e
  by_cases q768 : n = 768
  · first | (rw [if_pos q768] at e; omega) | exact absurd h0 (by rw [q768]; decide)
  rw [if_neg q768] at e
  by_cases q772 : n = 772
  · first | (rw [if_pos q772] at e; omega) | exact absurd h0 (by rw [q772]; decide)
  rw [if_neg q772] at e
  by_cases q773 : n = 773
  · first | (rw [if_pos q773] at e; omega) | exact absurd h0 (by rw [q773]; decide)
  rw [if_neg q773] at e
  by_cases q774 : n = 774
  · first | (rw [if_pos q774] at e; omega) | exact absurd h0 (by rw [q774]; decide)
  rw [if_neg q774] at e
  by_cases q778 : n = 778
  · first | (rw [if_pos q778] at e; omega) | exact absurd h0 (by rw [q778]; decide)
  rw [if_neg q778] at e
  by_cases q800 : n = 800
  · first | (rw [if_pos q800] at e; omega) | exact absurd h0 (by rw [q800]; decide)
  rw [if_neg q800] at e
  by_cases q832 : n = 832
  · first | (rw [if_pos q832] at e; omega) | exact absurd h0 (by rw [q832]; decide)
  rw [if_neg q832] at e
  by_cases q833 : n = 833
  · first | (rw [if_pos q833] at e; omega) | exact absurd h0 (by rw [q833]; decide)
  rw [if_neg q833] at e
  by_cases q834 : n = 834
  · first | (rw [if_pos q834] at e; omega) | exact absurd h0 (by rw [q834]; decide)
  rw [if_neg q834] at e
  by_cases q835 : n = 835
  · first | (rw [if_pos q835] at e; omega) | exact absurd h0 (by rw [q835]; decide)
  rw [if_neg q835] at e
  by_cases q2816 : n = 2816
  · first | (rw [if_pos q2816] at e; omega) | exact absurd h0 (by rw [q2816]; decide)
  rw [if_neg q2816] at e
  by_cases q3072 : n = 3072
  · first | (rw [if_pos q3072] at e; omega) | exact absurd h0 (by rw [q3072]; decide)
  rw [if_neg q3072] at e
  by_cases q2818 : n = 2818
  · first | (rw [if_pos q2818] at e; omega) | exact absurd h0 (by rw [q2818]; decide)
  rw [if_neg q2818] at e
  by_cases q3074 : n = 3074
  · first | (rw [if_pos q3074] at e; omega) | exact absurd h0 (by rw [q3074]; decide)
  rw [if_neg q3074] at e
  omega
theorem sx_773 (n : Int) (h : al n 773 = false) : sx n ≠ 1 := by
  have h0 := h
  simp only [al, Bool.or_eq_false_iff, Bool.and_eq_false_iff, decide_eq_false_iff_not] at h
  intro e
  unfold sx at e
  by_cases q768 : n = 768
  · first | (rw [if_pos q768] at e; omega) | exact absurd h0 (by rw [q768]; decide)
  rw [if_neg q768] at e
  by_cases q772 : n = 772
  · first | (rw [if_pos q772] at e; omega) | exact absurd h0 (by rw [q772]; decide)
  rw [if_neg q772] at e
  by_cases q773 : n = 773
  · first | (rw [if_pos q773] at e; omega) | exact absurd h0 (by rw [q773]; decide)
  rw [if_neg q773] at e
  by_cases q774 : n = 774
  · first | (rw [if_pos q774] at e; omega) | exact absurd h0 (by rw [q774]; decide)
  rw [if_neg q774] at e
  by_cases q778 : n = 778
  · first | (rw [if_pos q778] at e; omega) | exact absurd h0 (by rw [q778]; decide)
  rw [if_neg q778] at e
  by_cases q800 : n = 800
  · first | (rw [if_pos q800] at e; omega) | exact absurd h0 (by rw [q800]; decide)
  rw [if_neg q800] at e
  by_cases q832 : n = 832
  · first | (rw [if_pos q832] at e; omega) | exact absurd h0 (by rw [q832]; decide)
  rw [if_neg q832] at e
  by_cases q833 : n = 833
  · first | (rw [if_pos q833] at e; omega) | exact absurd h0 (by rw [q833]; decide)
  rw [if_neg q833] at e
  by_cases q834 : n = 834
  · first | (rw [if_pos q834] at e; omega) | exact absurd h0 (by rw [q834]; decide)
  rw [if_neg q834] at e
  by_cases q835 : n = 835
  · first | (rw [if_pos q835] at e; omega) | exact absurd h0 (by rw [q835]; decide)
  rw [if_neg q835] at e
  by_cases q2816 : n = 2816
  · first | (rw [if_pos q2816] at e; omega) | exact absurd h0 (by rw [q2816]; decide)
  rw [if_neg q2816] at e
  by_cases q3072 : n = 3072
  · first | (rw [if_pos q3072] at e; omega) | exact absurd h0 (by rw [q3072]; decide)
  rw [if_neg q3072] at e
  by_cases q2818 : n = 2818
  · first | (rw [if_pos q2818] at e; omega) | exact absurd h0 (by rw [q2818]; decide)
  rw [if_neg q2818] at e
  by_cases q3074 : n = 3074
  · first | (rw [if_pos q3074] at e; omega) | exact absurd h0 (by rw [q3074]; decide)
  rw [if_neg q3074] at e
  omega
theorem sx_774 (n : Int) (h : al n 774 = false) : sx n ≠ 3 := by
  have h0 := h
  simp only [al, Bool.or_eq_false_iff, Bool.and_eq_false_iff, decide_eq_false_iff_not] at h
  intro e
  unfold sx at e
  by_cases q768 : n = 768
  · first | (rw [if_pos q768] at e; omega) | exact absurd h0 (by rw [q768]; decide)
  rw [if_neg q768] at e
  by_cases q772 : n = 772
  · first | (rw [if_pos q772] at e; omega) | exact absurd h0 (by rw [q772]; decide)
  rw [if_neg q772] at e
  by_cases q773 : n = 773
  · first | (rw [if_pos q773] at e; omega) | exact absurd h0 (by rw [q773]; decide)
  rw [if_neg q773] at e
  by_cases q774 : n = 774
  · first | (rw [if_pos q774] at e; omega) | exact absurd h0 (by rw [q774]; decide)
  rw [if_neg q774] at e
  by_cases q778 : n = 778
  · first | (rw [if_pos q778] at e; omega) | exact absurd h0 (by rw [q778]; decide)
  rw [if_neg q778] at e
  by_cases q800 : n = 800
  · first | (rw [if_pos q800] at e; omega) | exact absurd h0 (by rw [q800]; decide)
  rw [if_neg q800] at e
  by_cases q832 : n = 832
  · first | (rw [if_pos q832] at e; omega) | exact absurd h0 (by rw [q832]; decide)
  rw [if_neg q832] at e
  by_cases q833 : n = 833
  · first | (rw [if_pos q833] at e; omega) | exact absurd h0 (by rw [q833]; decide)
  rw [if_neg q833] at e
  by_cases q834 : n = 834
  · first | (rw [if_pos q834] at e; omega) | exact absurd h0 (by rw [q834]; decide)
  rw [if_neg q834] at e
  by_cases q835 : n = 835
  · first | (rw [if_pos q835] at e; omega) | exact absurd h0 (by rw [q835]; decide)
  rw [if_neg q835] at e
  by_cases q2816 : n = 2816
  · first | (rw [if_pos q2816] at e; omega) | exact absurd h0 (by rw [q2816]; decide)
  rw [if_neg q2816] at e
  by_cases q3072 : n = 3072
  · first | (rw [if_pos q3072] at e; omega) | exact absurd h0 (by rw [q3072]; decide)
  rw [if_neg q3072] at e
  by_cases q2818 : n = 2818
  · first | (rw [if_pos q2818] at e; omega) | exact absurd h0 (by rw [q2818]; decide)
  rw [if_neg q2818] at e
  by_cases q3074 : n = 3074
  · first | (rw [if_pos q3074] at e; omega) | exact absurd h0 (by rw [q3074]; decide)
  rw [if_neg q3074] at e
  omega
theorem sx_778 (n : Int) (h : al n 778 = false) : sx n ≠ 5 := by
  have h0 := h
  simp only [al, Bool.or_eq_false_iff, Bool.and_eq_false_iff, decide_eq_false_iff_not] at h
  intro e
  unfold sx at e
  by_cases q768 : n = 768
  · first | (rw [if_pos q768] at e; omega) | exact absurd h0 (by rw [q768]; decide)
  rw [if_neg q768] at e
  by_cases q772 : n = 772
  · first | (rw [if_pos q772] at e; omega) | exact absurd h0 (by rw [q772]; decide)
  rw [if_neg q772] at e
  by_cases q773 : n = 773
  · first | (rw [if_pos q773] at e; omega) | exact absurd h0 (by rw [q773]; decide)
  rw [if_neg q773] at e
  by_cases q774 : n = 774
  · first | (rw [if_pos q774] at e; omega) | exact absurd h0 (by rw [q774]; decide)
  rw [if_neg q774] at e
  by_cases q778 : n = 778
  · first | (rw [if_pos q778] at e; omega) | exact absurd h0 (by rw [q778]; decide)
  rw [if_neg q778] at e
  by_cases q800 : n = 800
  · first | (rw [if_pos q800] at e; omega) | exact absurd h0 (by rw [q800]; decide)
  rw [if_neg q800] at e
  by_cases q832 : n = 832
  · first | (rw [if_pos q832] at e; omega) | exact absurd h0 (by rw [q832]; decide)
  rw [if_neg q832] at e
  by_cases q833 : n = 833
  · first | (rw [if_pos q833] at e; omega) | exact absurd h0 (by rw [q833]; decide)
  rw [if_neg q833] at e
  by_cases q834 : n = 834
  · first | (rw [if_pos q834] at e; omega) | exact absurd h0 (by rw [q834]; decide)
  rw [if_neg q834] at e
  by_cases q835 : n = 835
  · first | (rw [if_pos q835] at e; omega) | exact absurd h0 (by rw [q835]; decide)
  rw [if_neg q835] at e
  by_cases q2816 : n = 2816
  · first | (rw [if_pos q2816] at e; omega) | exact absurd h0 (by rw [q2816]; decide)
  rw [if_neg q2816] at e
  by_cases q3072 : n = 3072
  · first | (rw [if_pos q3072] at e; omega) | exact absurd h0 (by rw [q3072]; decide)
  rw [if_neg q3072] at e
  by_cases q2818 : n = 2818
  · first | (rw [if_pos q2818] at e; omega) | exact absurd h0 (by rw [q2818]; decide)
  rw [if_neg q2818] at e
  by_cases q3074 : n = 3074
  · first | (rw [if_pos q3074] at e; omega) | exact absurd h0 (by rw [q3074]; decide)
  rw [if_neg q3074] at e
  omega
theorem sx_800 (n : Int) (h : al n 800 = false) : sx n ≠ 4 := by
  have h0 := h
  simp only [al, Bool.or_eq_false_iff, Bool.and_eq_false_iff, decide_eq_false_iff_not] at h
  intro e
  unfold sx at e
  by_cases q768 : n = 768
  · first | (rw [if_pos q768] at e; omega) | exact absurd h0 (by rw [q768]; decide)
  rw [if_neg q768] at e
  by_cases q772 : n = 772
  · first | (rw [if_pos q772] at e; omega) | exact absurd h0 (by rw [q772]; decide)
  rw [if_neg q772] at e
  by_cases q773 : n = 773
  · first | (rw [if_pos q773] at e; omega) | exact absurd h0 (by rw [q773]; decide)
  rw [if_neg q773] at e
  by_cases q774 : n = 774
  · first | (rw [if_pos q774] at e; omega) | exact absurd h0 (by rw [q774]; decide)
  rw [if_neg q774] at e
  by_cases q778 : n = 778
  · first | (rw [if_pos q778] at e; omega) | exact absurd h0 (by rw [q778]; decide)
  rw [if_neg q778] at e
  by_cases q800 : n = 800
  · first | (rw [if_pos q800] at e; omega) | exact absurd h0 (by rw [q800]; decide)
  rw [if_neg q800] at e
  by_cases q832 : n = 832
  · first | (rw [if_pos q832] at e; omega) | exact absurd h0 (by rw [q832]; decide)
  rw [if_neg q832] at e
  by_cases q833 : n = 833
  · first | (rw [if_pos q833] at e; omega) | exact absurd h0 (by rw [q833]; decide)
  rw [if_neg q833] at e
  by_cases q834 : n = 834
  · first | (rw [if_pos q834] at e; omega) | exact absurd h0 (by rw [q834]; decide)
  rw [if_neg q834] at e
  by_cases q835 : n = 835
  · first | (rw [if_pos q835] at e; omega) | exact absurd h0 (by rw [q835]; decide)
  rw [if_neg q835] at e
  by_cases q2816 : n = 2816
  · first | (rw [if_pos q2816] at e; omega) | exact absurd h0 (by rw [q2816]; decide)
  rw [if_neg q2816] at e
  by_cases q3072 : n = 3072
  · first | (rw [if_pos q3072] at e; omega) | exact absurd h0 (by rw [q3072]; decide)
  rw [if_neg q3072] at e
  by_cases q2818 : n = 2818
  · first | (rw [if_pos q2818] at e; omega) | exact absurd h0 (by rw [q2818]; decide)
  rw [if_neg q2818] at e
  by_cases q3074 : n = 3074
  · first | (rw [if_pos q3074] at e; omega) | exact absurd h0 (by rw [q3074]; decide)
  rw [if_neg q3074] at e
  omega
theorem sx_832 (n : Int) (h : al n 832 = false) : sx n ≠ 6 := by
  have h0 := h
  simp only [al, Bool.or_eq_false_iff, Bool.and_eq_false_iff, decide_eq_false_iff_not] at h
  intro e
  unfold sx at e
  by_cases q768 : n = 768
  · first | (rw [if_pos q768] at e; omega) | exact absurd h0 (by rw [q768]; decide)
  rw [if_neg q768] at e
  by_cases q772 : n = 772
  · first | (rw [if_pos q772] at e; omega) | exact absurd h0 (by rw [q772]; decide)
  rw [if_neg q772] at e
  by_cases q773 : n = 773
  · first | (rw [if_pos q773] at e; omega) | exact absurd h0 (by rw [q773]; decide)
  rw [if_neg q773] at e
  by_cases q774 : n = 774
  · first | (rw [if_pos q774] at e; omega) | exact absurd h0 (by rw [q774]; decide)
  rw [if_neg q774] at e
  by_cases q778 : n = 778
  · first | (rw [if_pos q778] at e; omega) | exact absurd h0 (by rw [q778]; decide)
  rw [if_neg q778] at e
  by_cases q800 : n = 800
  · first | (rw [if_pos q800] at e; omega) | exact absurd h0 (by rw [q800]; decide)
  rw [if_neg q800] at e
  by_cases q832 : n = 832
  · first | (rw [if_pos q832] at e; omega) | exact absurd h0 (by rw [q832]; decide)
  rw [if_neg q832] at e
  by_cases q833 : n = 833
  · first | (rw [if_pos q833] at e; omega) | exact absurd h0 (by rw [q833]; decide)
  rw [if_neg q833] at e
  by_cases q834 : n = 834
  · first | (rw [if_pos q834] at e; omega) | exact absurd h0 (by rw [q834]; decide)
  rw [if_neg q834] at e
  by_cases q835 : n = 835
  · first | (rw [if_pos q835] at e; omega) | exact absurd h0 (by rw [q835]; decide)
  rw [if_neg q835] at e
  by_cases q2816 : n = 2816
  · first | (rw [if_pos q2816] at e; omega) | exact absurd h0 (by rw [q2816]; decide)
  rw [if_neg q2816] at e
  by_cases q3072 : n = 3072
  · first | (rw [if_pos q3072] at e; omega) | exact absurd h0 (by rw [q3072]; decide)
  rw [if_neg q3072] at e
  by_cases q2818 : n = 2818
  · first | (rw [if_pos q2818] at e; omega) | exact absurd h0 (by rw [q2818]; decide)
  rw [if_neg q2818] at e
  by_cases q3074 : n = 3074
  · first | (rw [if_pos q3074] at e; omega) | exact absurd h0 (by rw [q3074]; decide)
  rw [if_neg q3074] at e
  omega
theorem sx_833 (n : Int) (h : al n 833 = false) : sx n ≠ 7 := by
  have h0 := h
  simp only [al, Bool.or_eq_false_iff, Bool.and_eq_false_iff, decide_eq_false_iff_not] at h
  intro e
  unfold sx at e
  by_cases q768 : n = 768
  · first | (rw [if_pos q768] at e; omega) | exact absurd h0 (by rw [q768]; decide)
  rw [if_neg q768] at e
  by_cases q772 : n = 772
  · first | (rw [if_pos q772] at e; omega) | exact absurd h0 (by rw [q772]; decide)
  rw [if_neg q772] at e
  by_cases q773 : n = 773
  · first | (rw [if_pos q773] at e; omega) | exact absurd h0 (by rw [q773]; decide)
  rw [if_neg q773] at e
  by_cases q774 : n = 774
  · first | (rw [if_pos q774] at e; omega) | exact absurd h0 (by rw [q774]; decide)
  rw [if_neg q774] at e
  by_cases q778 : n = 778
  · first | (rw [if_pos q778] at e; omega) | exact absurd h0 (by rw [q778]; decide)
  rw [if_neg q778] at e
  by_cases q800 : n = 800
  · first | (rw [if_pos q800] at e; omega) | exact absurd h0 (by rw [q800]; decide)
  rw [if_neg q800] at e
  by_cases q832 : n = 832
  · first | (rw [if_pos q832] at e; omega) | exact absurd h0 (by rw [q832]; decide)
  rw [if_neg q832] at e
  by_cases q833 : n = 833
  · first | (rw [if_pos q833] at e; omega) | exact absurd h0 (by rw [q833]; decide)
  rw [if_neg q833] at e
  by_cases q834 : n = 834
  · first | (rw [if_pos q834] at e; omega) | exact absurd h0 (by rw [q834]; decide)
  rw [if_neg q834] at e
  by_cases q835 : n = 835
  · first | (rw [if_pos q835] at e; omega) | exact absurd h0 (by rw [q835]; decide)
  rw [if_neg q835] at e
  by_cases q2816 : n = 2816
  · first | (rw [if_pos q2816] at e; omega) | exact absurd h0 (by rw [q2816]; decide)
  rw [if_neg q2816] at e
  by_cases q3072 : n = 3072
  · first | (rw [if_pos q3072] at e; omega) | exact absurd h0 (by rw [q3072]; decide)
  rw [if_neg q3072] at e
  by_cases q2818 : n = 2818
  · first | (rw [if_pos q2818] at e; omega) | exact absurd h0 (by rw [q2818]; decide)
  rw [if_neg q2818] at e
  by_cases q3074 : n = 3074
  · first | (rw [if_pos q3074] at e; omega) | exact absurd h0 (by rw [q3074]; decide)
  rw [if_neg q3074] at e
  omega
theorem sx_834 (n : Int) (h : al n 834 = false) : sx n ≠ 8 := by
  have h0 := h
  simp only [al, Bool.or_eq_false_iff, Bool.and_eq_false_iff, decide_eq_false_iff_not] at h
  intro e
  unfold sx at e
  by_cases q768 : n = 768
  · first | (rw [if_pos q768] at e; omega) | exact absurd h0 (by rw [q768]; decide)
  rw [if_neg q768] at e
  by_cases q772 : n = 772
  · first | (rw [if_pos q772] at e; omega) | exact absurd h0 (by rw [q772]; decide)
  rw [if_neg q772] at e
  by_cases q773 : n = 773
  · first | (rw [if_pos q773] at e; omega) | exact absurd h0 (by rw [q773]; decide)
  rw [if_neg q773] at e
  by_cases q774 : n = 774
  · first | (rw [if_pos q774] at e; omega) | exact absurd h0 (by rw [q774]; decide)
  rw [if_neg q774] at e
  by_cases q778 : n = 778
  · first | (rw [if_pos q778] at e; omega) | exact absurd h0 (by rw [q778]; decide)
  rw [if_neg q778] at e
  by_cases q800 : n = 800
  · first | (rw [if_pos q800] at e; omega) | exact absurd h0 (by rw [q800]; decide)
  rw [if_neg q800] at e
  by_cases q832 : n = 832
  · first | (rw [if_pos q832] at e; omega) | exact absurd h0 (by rw [q832]; decide)
  rw [if_neg q832] at e
  by_cases q833 : n = 833
  · first | (rw [if_pos q833] at e; omega) | exact absurd h0 (by rw [q833]; decide)
  rw [if_neg q833] at e
  by_cases q834 : n = 834
  · first | (rw [if_pos q834] at e; omega) | exact absurd h0 (by rw [q834]; decide)
  rw [if_neg q834] at e
  by_cases q835 : n = 835
  · first | (rw [if_pos q835] at e; omega) | exact absurd h0 (by rw [q835]; decide)
  rw [if_neg q835] at e
  by_cases q2816 : n = 2816
  · first | (rw [if_pos q2816] at e; omega) | exact absurd h0 (by rw [q2816]; decide)
  rw [if_neg q2816] at e
  by_cases q3072 : n = 3072
  · first | (rw [if_pos q3072] at e; omega) | exact absurd h0 (by rw [q3072]; decide)
  rw [if_neg q3072] at e
  by_cases q2818 : n = 2818
  · first | (rw [if_pos q2818] at e; omega) | exact absurd h0 (by rw [q2818]; decide)
  rw [if_neg q2818] at e
  by_cases q3074 : n = 3074
  · first | (rw [if_pos q3074] at e; omega) | exact absurd h0 (by rw [q3074]; decide)
  rw [if_neg q3074] at e
  omega
theorem sx_835 (n : Int) (h : al n 835 = false) : sx n ≠ 9 := by
  have h0 := h
  simp only [al, Bool.or_eq_false_iff, Bool.and_eq_false_iff, decide_eq_false_iff_not] at h
  intro e
  unfold sx at e
  by_cases q768 : n = 768
  · first | (rw [if_pos q768] at e; omega) | exact absurd h0 (by rw [q768]; decide)
  rw [if_neg q768] at e
  by_cases q772 : n = 772
  · first | (rw [if_pos q772] at e; omega) | exact absurd h0 (by rw [q772]; decide)
  rw [if_neg q772] at e
  by_cases q773 : n = 773
  · first | (rw [if_pos q773] at e; omega) | exact absurd h0 (by rw [q773]; decide)
  rw [if_neg q773] at e
  by_cases q774 : n = 774
  · first | (rw [if_pos q774] at e; omega) | exact absurd h0 (by rw [q774]; decide)
  rw [if_neg q774] at e
  by_cases q778 : n = 778
  · first | (rw [if_pos q778] at e; omega) | exact absurd h0 (by rw [q778]; decide)
  rw [if_neg q778] at e
  by_cases q800 : n = 800
  · first | (rw [if_pos q800] at e; omega) | exact absurd h0 (by rw [q800]; decide)
  rw [if_neg q800] at e
  by_cases q832 : n = 832
  · first | (rw [if_pos q832] at e; omega) | exact absurd h0 (by rw [q832]; decide)
  rw [if_neg q832] at e
  by_cases q833 : n = 833
  · first | (rw [if_pos q833] at e; omega) | exact absurd h0 (by rw [q833]; decide)
  rw [if_neg q833] at e
  by_cases q834 : n = 834
  · first | (rw [if_pos q834] at e; omega) | exact absurd h0 (by rw [q834]; decide)
  rw [if_neg q834] at e
  by_cases q835 : n = 835
  · first | (rw [if_pos q835] at e; omega) | exact absurd h0 (by rw [q835]; decide)
  rw [if_neg q835] at e
  by_cases q2816 : n = 2816
  · first | (rw [if_pos q2816] at e; omega) | exact absurd h0 (by rw [q2816]; decide)
  rw [if_neg q2816] at e
  by_cases q3072 : n = 3072
  · first | (rw [if_pos q3072] at e; omega) | exact absurd h0 (by rw [q3072]; decide)
  rw [if_neg q3072] at e
  by_cases q2818 : n = 2818
  · first | (rw [if_pos q2818] at e; omega) | exact absurd h0 (by rw [q2818]; decide)
  rw [if_neg q2818] at e
  by_cases q3074 : n = 3074
  · first | (rw [if_pos q3074] at e; omega) | exact absurd h0 (by rw [q3074]; decide)
  rw [if_neg q3074] at e
  omega
theorem sx_2816 (n : Int) (h : al n 2816 = false) : sx n ≠ 10 := by
  have h0 := h
  simp only [al, Bool.or_eq_false_iff, Bool.and_eq_false_iff, decide_eq_false_iff_not] at h
  intro e
  unfold sx at e
  by_cases q768 : n = 768
  · first | (rw [if_pos q768] at e; omega) | exact absurd h0 (by rw [q768]; decide)
  rw [if_neg q768] at e
  by_cases q772 : n = 772
  · first | (rw [if_pos q772] at e; omega) | exact absurd h0 (by rw [q772]; decide)
  rw [if_neg q772] at e
  by_cases q773 : n = 773
  · first | (rw [if_pos q773] at e; omega) | exact absurd h0 (by rw [q773]; decide)
  rw [if_neg q773] at e
  by_cases q774 : n = 774
  · first | (rw [if_pos q774] at e; omega) | exact absurd h0 (by rw [q774]; decide)
  rw [if_neg q774] at e
  by_cases q778 : n = 778
  · first | (rw [if_pos q778] at e; omega) | exact absurd h0 (by rw [q778]; decide)
  rw [if_neg q778] at e
  by_cases q800 : n = 800
  · first | (rw [if_pos q800] at e; omega) | exact absurd h0 (by rw [q800]; decide)
  rw [if_neg q800] at e
  by_cases q832 : n = 832
  · first | (rw [if_pos q832] at e; omega) | exact absurd h0 (by rw [q832]; decide)
  rw [if_neg q832] at e
  by_cases q833 : n = 833
  · first | (rw [if_pos q833] at e; omega) | exact absurd h0 (by rw [q833]; decide)
  rw [if_neg q833] at e
  by_cases q834 : n = 834
  · first | (rw [if_pos q834] at e; omega) | exact absurd h0 (by rw [q834]; decide)
  rw [if_neg q834] at e
  by_cases q835 : n = 835
  · first | (rw [if_pos q835] at e; omega) | exact absurd h0 (by rw [q835]; decide)
  rw [if_neg q835] at e
  by_cases q2816 : n = 2816
  · first | (rw [if_pos q2816] at e; omega) | exact absurd h0 (by rw [q2816]; decide)
  rw [if_neg q2816] at e
  by_cases q3072 : n = 3072
  · first | (rw [if_pos q3072] at e; omega) | exact absurd h0 (by rw [q3072]; decide)
  rw [if_neg q3072] at e
  by_cases q2818 : n = 2818
  · first | (rw [if_pos q2818] at e; omega) | exact absurd h0 (by rw [q2818]; decide)
  rw [if_neg q2818] at e
  by_cases q3074 : n = 3074
  · first | (rw [if_pos q3074] at e; omega) | exact absurd h0 (by rw [q3074]; decide)
  rw [if_neg q3074] at e
  omega
theorem sx_2818 (n : Int) (h : al n 2818 = false) : sx n ≠ 11 := by
  have h0 := h
  simp only [al, Bool.or_eq_false_iff, Bool.and_eq_false_iff, decide_eq_false_iff_not] at h
  intro e
  unfold sx at e
  by_cases q768 : n = 768
  · first | (rw [if_pos q768] at e; omega) | exact absurd h0 (by rw [q768]; decide)
  rw [if_neg q768] at e
  by_cases q772 : n = 772
  · first | (rw [if_pos q772] at e; omega) | exact absurd h0 (by rw [q772]; decide)
  rw [if_neg q772] at e
  by_cases q773 : n = 773
  · first | (rw [if_pos q773] at e; omega) | exact absurd h0 (by rw [q773]; decide)
  rw [if_neg q773] at e
  by_cases q774 : n = 774
  · first | (rw [if_pos q774] at e; omega) | exact absurd h0 (by rw [q774]; decide)
  rw [if_neg q774] at e
  by_cases q778 : n = 778
  · first | (rw [if_pos q778] at e; omega) | exact absurd h0 (by rw [q778]; decide)
  rw [if_neg q778] at e
  by_cases q800 : n = 800
  · first | (rw [if_pos q800] at e; omega) | exact absurd h0 (by rw [q800]; decide)
  rw [if_neg q800] at e
  by_cases q832 : n = 832
  · first | (rw [if_pos q832] at e; omega) | exact absurd h0 (by rw [q832]; decide)
  rw [if_neg q832] at e
  by_cases q833 : n = 833
  · first | (rw [if_pos q833] at e; omega) | exact absurd h0 (by rw [q833]; decide)
  rw [if_neg q833] at e
  by_cases q834 : n = 834
  · first | (rw [if_pos q834] at e; omega) | exact absurd h0 (by rw [q834]; decide)
  rw [if_neg q834] at e
  by_cases q835 : n = 835
  · first | (rw [if_pos q835] at e; omega) | exact absurd h0 (by rw [q835]; decide)
  rw [if_neg q835] at e
  by_cases q2816 : n = 2816
  · first | (rw [if_pos q2816] at e; omega) | exact absurd h0 (by rw [q2816]; decide)
  rw [if_neg q2816] at e
  by_cases q3072 : n = 3072
  · first | (rw [if_pos q3072] at e; omega) | exact absurd h0 (by rw [q3072]; decide)
  rw [if_neg q3072] at e
  by_cases q2818 : n = 2818
  · first | (rw [if_pos q2818] at e; omega) | exact absurd h0 (by rw [q2818]; decide)
  rw [if_neg q2818] at e
  by_cases q3074 : n = 3074
  · first | (rw [if_pos q3074] at e; omega) | exact absurd h0 (by rw [q3074]; decide)
  rw [if_neg q3074] at e
  omega
theorem al_ne {n N : Int} (h : al n N = false) : n ≠ N := by
  simp only [al, Bool.or_eq_false_iff, decide_eq_false_iff_not] at h
  exact h.1.1.1.1
theorem other_all (p : Cp) (hp : PR p = p) (N : Int) (v m t : BitVec 64) (n : Int) (h : al n N = false) : TO p m t n = TO (PR (KW p N v)) m t n := by
  unfold KW
  by_cases q768 : N = 768
  · rw [if_pos q768]; subst q768; exact other_s p hp 0 (stW (p.s 0) v) m t n (sx_768 n h)
  rw [if_neg q768]
  by_cases q772 : N = 772
  · rw [if_pos q772]; subst q772; exact other_s p hp 2 v m t n (sx_772 n h)
  rw [if_neg q772]
  by_cases q773 : N = 773
  · rw [if_pos q773]; subst q773; exact other_s p hp 1 v m t n (sx_773 n h)
  rw [if_neg q773]
  by_cases q774 : N = 774
  · rw [if_pos q774]; subst q774; exact other_s p hp 3 v m t n (sx_774 n h)
  rw [if_neg q774]
  by_cases q778 : N = 778
  · rw [if_pos q778]; subst q778; exact other_s p hp 5 v m t n (sx_778 n h)
  rw [if_neg q778]
  by_cases q800 : N = 800
  · rw [if_pos q800]; subst q800; exact other_s p hp 4 v m t n (sx_800 n h)
  rw [if_neg q800]
  by_cases q832 : N = 832
  · rw [if_pos q832]; subst q832; exact other_s p hp 6 v m t n (sx_832 n h)
  rw [if_neg q832]
  by_cases q833 : N = 833
  · rw [if_pos q833]; subst q833; exact other_s p hp 7 v m t n (sx_833 n h)
  rw [if_neg q833]
  by_cases q834 : N = 834
  · rw [if_pos q834]; subst q834; exact other_s p hp 8 v m t n (sx_834 n h)
  rw [if_neg q834]
  by_cases q835 : N = 835
  · rw [if_pos q835]; subst q835; exact other_s p hp 9 v m t n (sx_835 n h)
  rw [if_neg q835]
  by_cases q2816 : N = 2816
  · rw [if_pos q2816]; subst q2816; exact other_s p hp 10 v m t n (sx_2816 n h)
  rw [if_neg q2816]
  by_cases q2818 : N = 2818
  · rw [if_pos q2818]; subst q2818; exact other_s p hp 11 v m t n (sx_2818 n h)
  rw [if_neg q2818]
  by_cases q928 : N = 928
  · rw [if_pos q928]; subst q928; exact other_c0 p hp v m t n (al_ne h)
  rw [if_neg q928]
  by_cases q930 : N = 930
  · rw [if_pos q930]; subst q930; exact other_c2 p hp v m t n (al_ne h)
  rw [if_neg q930]
  by_cases hw : 944 ≤ N ∧ N ≤ 959
  · rw [if_pos hw]; exact other_a p hp v m t n N hw (al_ne h)
  rw [if_neg hw, hp]
theorem mq_stB (x : BitVec 64) : ¬ mq (stB x) := by
  have e : ∀ y : BitVec 64, (y ||| 8589934592#64) >>> 11 &&& 3#64 = y >>> 11 &&& 3#64 := fun y => by
    rw [BitVec.ushiftRight_or_distrib]
    exact or_and0 _ _ _ (by decide)
  unfold stB
  by_cases h : mq (x &&& 2234504#64)
  · rw [if_pos h]
    have h2 := mq_no x
    unfold mq at h2 ⊢
    rwa [e]
  · rw [if_neg h]
    unfold mq at h ⊢
    rwa [e]
theorem upd_self {α : Type} (f : Nat → α) (i : Nat) : upd f i (f i) = f := by
  funext j; unfold upd; split
  · rename_i h; rw [h]
  · rfl
theorem TO_word (k : Cp) (m t : BitVec 64) (n : Int) : ∃ b, TO k m t n = n64 b := by
  unfold TO
  by_cases q3859 : n = 3859
  · rw [if_pos q3859]; exact ⟨1#64, rfl⟩
  rw [if_neg q3859]
  by_cases q768 : n = 768
  · rw [if_pos q768]; exact ⟨k.s 0, rfl⟩
  rw [if_neg q768]
  by_cases q769 : n = 769
  · rw [if_pos q769]; exact ⟨9223372036855828741#64, rfl⟩
  rw [if_neg q769]
  by_cases q772 : n = 772
  · rw [if_pos q772]; exact ⟨k.s 2, rfl⟩
  rw [if_neg q772]
  by_cases q773 : n = 773
  · rw [if_pos q773]; exact ⟨k.s 1, rfl⟩
  rw [if_neg q773]
  by_cases q774 : n = 774
  · rw [if_pos q774]; exact ⟨k.s 3, rfl⟩
  rw [if_neg q774]
  by_cases q778 : n = 778
  · rw [if_pos q778]; exact ⟨k.s 5, rfl⟩
  rw [if_neg q778]
  by_cases q800 : n = 800
  · rw [if_pos q800]; exact ⟨k.s 4, rfl⟩
  rw [if_neg q800]
  by_cases q832 : n = 832
  · rw [if_pos q832]; exact ⟨k.s 6, rfl⟩
  rw [if_neg q832]
  by_cases q833 : n = 833
  · rw [if_pos q833]; exact ⟨k.s 7, rfl⟩
  rw [if_neg q833]
  by_cases q834 : n = 834
  · rw [if_pos q834]; exact ⟨k.s 8, rfl⟩
  rw [if_neg q834]
  by_cases q835 : n = 835
  · rw [if_pos q835]; exact ⟨k.s 9, rfl⟩
  rw [if_neg q835]
  by_cases q836 : n = 836
  · rw [if_pos q836]; exact ⟨(m &&& 2184#64), rfl⟩
  rw [if_neg q836]
  by_cases q928 : n = 928
  · rw [if_pos q928]; exact ⟨cfgB (PC k.c) 0, cfgB_n _ _⟩
  rw [if_neg q928]
  by_cases q930 : n = 930
  · rw [if_pos q930]; exact ⟨cfgB (PC k.c) 8, cfgB_n _ _⟩
  rw [if_neg q930]
  by_cases q2816 : n = 2816
  · rw [if_pos q2816]; exact ⟨k.s 10, rfl⟩
  rw [if_neg q2816]
  by_cases q3072 : n = 3072
  · rw [if_pos q3072]; exact ⟨k.s 10, rfl⟩
  rw [if_neg q3072]
  by_cases q2818 : n = 2818
  · rw [if_pos q2818]; exact ⟨k.s 11, rfl⟩
  rw [if_neg q2818]
  by_cases q3074 : n = 3074
  · rw [if_pos q3074]; exact ⟨k.s 11, rfl⟩
  rw [if_neg q3074]
  by_cases q3073 : n = 3073
  · rw [if_pos q3073]; exact ⟨t, rfl⟩
  rw [if_neg q3073]
  by_cases hw : 944 ≤ n ∧ n ≤ 959
  · rw [if_pos hw]; exact ⟨_, rfl⟩
  · rw [if_neg hw]; exact ⟨0#64, rfl⟩
theorem TO_768 (d : Cp) (m t : BitVec 64) : TO d m t 768 = n64 (d.s 0) := by
  unfold TO
  rw [if_neg (by decide)]
  rw [if_pos rfl]
theorem TO_772 (d : Cp) (m t : BitVec 64) : TO d m t 772 = n64 (d.s 2) := by
  unfold TO
  rw [if_neg (by decide)]
  rw [if_neg (by decide)]
  rw [if_neg (by decide)]
  rw [if_pos rfl]
theorem TO_773 (d : Cp) (m t : BitVec 64) : TO d m t 773 = n64 (d.s 1) := by
  unfold TO
  rw [if_neg (by decide)]
  rw [if_neg (by decide)]
  rw [if_neg (by decide)]
  rw [if_neg (by decide)]
  rw [if_pos rfl]
theorem TO_774 (d : Cp) (m t : BitVec 64) : TO d m t 774 = n64 (d.s 3) := by
  unfold TO
  rw [if_neg (by decide)]
  rw [if_neg (by decide)]
  rw [if_neg (by decide)]
  rw [if_neg (by decide)]
  rw [if_neg (by decide)]
  rw [if_pos rfl]
theorem TO_778 (d : Cp) (m t : BitVec 64) : TO d m t 778 = n64 (d.s 5) := by
  unfold TO
  rw [if_neg (by decide)]
  rw [if_neg (by decide)]
  rw [if_neg (by decide)]
  rw [if_neg (by decide)]
  rw [if_neg (by decide)]
  rw [if_neg (by decide)]
  rw [if_pos rfl]
theorem TO_800 (d : Cp) (m t : BitVec 64) : TO d m t 800 = n64 (d.s 4) := by
  unfold TO
  rw [if_neg (by decide)]
  rw [if_neg (by decide)]
  rw [if_neg (by decide)]
  rw [if_neg (by decide)]
  rw [if_neg (by decide)]
  rw [if_neg (by decide)]
  rw [if_neg (by decide)]
  rw [if_pos rfl]
theorem TO_832 (d : Cp) (m t : BitVec 64) : TO d m t 832 = n64 (d.s 6) := by
  unfold TO
  rw [if_neg (by decide)]
  rw [if_neg (by decide)]
  rw [if_neg (by decide)]
  rw [if_neg (by decide)]
  rw [if_neg (by decide)]
  rw [if_neg (by decide)]
  rw [if_neg (by decide)]
  rw [if_neg (by decide)]
  rw [if_pos rfl]
theorem TO_833 (d : Cp) (m t : BitVec 64) : TO d m t 833 = n64 (d.s 7) := by
  unfold TO
  rw [if_neg (by decide)]
  rw [if_neg (by decide)]
  rw [if_neg (by decide)]
  rw [if_neg (by decide)]
  rw [if_neg (by decide)]
  rw [if_neg (by decide)]
  rw [if_neg (by decide)]
  rw [if_neg (by decide)]
  rw [if_neg (by decide)]
  rw [if_pos rfl]
theorem TO_834 (d : Cp) (m t : BitVec 64) : TO d m t 834 = n64 (d.s 8) := by
  unfold TO
  rw [if_neg (by decide)]
  rw [if_neg (by decide)]
  rw [if_neg (by decide)]
  rw [if_neg (by decide)]
  rw [if_neg (by decide)]
  rw [if_neg (by decide)]
  rw [if_neg (by decide)]
  rw [if_neg (by decide)]
  rw [if_neg (by decide)]
  rw [if_neg (by decide)]
  rw [if_pos rfl]
theorem TO_835 (d : Cp) (m t : BitVec 64) : TO d m t 835 = n64 (d.s 9) := by
  unfold TO
  rw [if_neg (by decide)]
  rw [if_neg (by decide)]
  rw [if_neg (by decide)]
  rw [if_neg (by decide)]
  rw [if_neg (by decide)]
  rw [if_neg (by decide)]
  rw [if_neg (by decide)]
  rw [if_neg (by decide)]
  rw [if_neg (by decide)]
  rw [if_neg (by decide)]
  rw [if_neg (by decide)]
  rw [if_pos rfl]
theorem TO_2816 (d : Cp) (m t : BitVec 64) : TO d m t 2816 = n64 (d.s 10) := by
  unfold TO
  rw [if_neg (by decide)]
  rw [if_neg (by decide)]
  rw [if_neg (by decide)]
  rw [if_neg (by decide)]
  rw [if_neg (by decide)]
  rw [if_neg (by decide)]
  rw [if_neg (by decide)]
  rw [if_neg (by decide)]
  rw [if_neg (by decide)]
  rw [if_neg (by decide)]
  rw [if_neg (by decide)]
  rw [if_neg (by decide)]
  rw [if_neg (by decide)]
  rw [if_neg (by decide)]
  rw [if_neg (by decide)]
  rw [if_pos rfl]
theorem TO_2818 (d : Cp) (m t : BitVec 64) : TO d m t 2818 = n64 (d.s 11) := by
  unfold TO
  rw [if_neg (by decide)]
  rw [if_neg (by decide)]
  rw [if_neg (by decide)]
  rw [if_neg (by decide)]
  rw [if_neg (by decide)]
  rw [if_neg (by decide)]
  rw [if_neg (by decide)]
  rw [if_neg (by decide)]
  rw [if_neg (by decide)]
  rw [if_neg (by decide)]
  rw [if_neg (by decide)]
  rw [if_neg (by decide)]
  rw [if_neg (by decide)]
  rw [if_neg (by decide)]
  rw [if_neg (by decide)]
  rw [if_neg (by decide)]
  rw [if_neg (by decide)]
  rw [if_pos rfl]
theorem TO_928 (d : Cp) (m t : BitVec 64) : TO d m t 928 = cfgR (PC d.c) 0 := by
  unfold TO
  rw [if_neg (by decide)]
  rw [if_neg (by decide)]
  rw [if_neg (by decide)]
  rw [if_neg (by decide)]
  rw [if_neg (by decide)]
  rw [if_neg (by decide)]
  rw [if_neg (by decide)]
  rw [if_neg (by decide)]
  rw [if_neg (by decide)]
  rw [if_neg (by decide)]
  rw [if_neg (by decide)]
  rw [if_neg (by decide)]
  rw [if_neg (by decide)]
  rw [if_pos rfl]
theorem TO_930 (d : Cp) (m t : BitVec 64) : TO d m t 930 = cfgR (PC d.c) 2 := by
  unfold TO
  rw [if_neg (by decide)]
  rw [if_neg (by decide)]
  rw [if_neg (by decide)]
  rw [if_neg (by decide)]
  rw [if_neg (by decide)]
  rw [if_neg (by decide)]
  rw [if_neg (by decide)]
  rw [if_neg (by decide)]
  rw [if_neg (by decide)]
  rw [if_neg (by decide)]
  rw [if_neg (by decide)]
  rw [if_neg (by decide)]
  rw [if_neg (by decide)]
  rw [if_neg (by decide)]
  rw [if_pos rfl]
theorem TO_in (d : Cp) (m t : BitVec 64) (N : Int) (h : 944 ≤ N ∧ N ≤ 959) : TO d m t N = n64 (d.a (N - 944).toNat) := by
  unfold TO
  rw [if_neg (by omega)]
  rw [if_neg (by omega)]
  rw [if_neg (by omega)]
  rw [if_neg (by omega)]
  rw [if_neg (by omega)]
  rw [if_neg (by omega)]
  rw [if_neg (by omega)]
  rw [if_neg (by omega)]
  rw [if_neg (by omega)]
  rw [if_neg (by omega)]
  rw [if_neg (by omega)]
  rw [if_neg (by omega)]
  rw [if_neg (by omega)]
  rw [if_neg (by omega)]
  rw [if_neg (by omega)]
  rw [if_neg (by omega)]
  rw [if_neg (by omega)]
  rw [if_neg (by omega)]
  rw [if_neg (by omega)]
  rw [if_neg (by omega)]
  rw [if_pos h]
theorem sR_back0 (c : Nat → BitVec 8) (h : PC c = c) : sR c 0 (cfgB c 0) = c := by
  unfold sR; rw [if_pos rfl]; funext j; unfold sC
  split
  · rename_i hj
    rw [Nat.sub_zero, cfgB_b c 0 j (by omega), Nat.zero_add]
    exact congrFun h j
  · rfl
theorem sR_back2 (c : Nat → BitVec 8) (h : PC c = c) : sR c 2 (cfgB c 8) = c := by
  unfold sR; rw [if_neg (by decide), if_pos rfl]; funext j; unfold sC
  split
  · rename_i hj
    rw [cfgB_b c 8 (j - 8) (by omega), show 8 + (j - 8) = j by omega]
    exact congrFun h j
  · rfl
/-- What a number tells, written once more, turns nothing. -/
theorem KW_back (d : Cp) (hd : PR d = d) (m t : BitVec 64) (N : Int) : ∃ b, TO d m t N = n64 b ∧ KW d N b = d := by
  by_cases q768 : N = 768
  · subst q768
    refine ⟨d.s 0, TO_768 d m t, ?_⟩
    unfold KW; rw [if_pos rfl]
    have e : d.s 0 = stB (d.s 0) := (congrFun (pr_s hd) 0).symm
    have hq : ¬ mq (d.s 0) := by rw [e]; exact mq_stB _
    unfold stW; rw [if_neg hq, upd_self]
  by_cases q772 : N = 772
  · subst q772
    refine ⟨d.s 2, TO_772 d m t, ?_⟩
    unfold KW
    rw [if_neg (by decide)]
    rw [if_pos rfl, upd_self]
  by_cases q773 : N = 773
  · subst q773
    refine ⟨d.s 1, TO_773 d m t, ?_⟩
    unfold KW
    rw [if_neg (by decide)]
    rw [if_neg (by decide)]
    rw [if_pos rfl, upd_self]
  by_cases q774 : N = 774
  · subst q774
    refine ⟨d.s 3, TO_774 d m t, ?_⟩
    unfold KW
    rw [if_neg (by decide)]
    rw [if_neg (by decide)]
    rw [if_neg (by decide)]
    rw [if_pos rfl, upd_self]
  by_cases q778 : N = 778
  · subst q778
    refine ⟨d.s 5, TO_778 d m t, ?_⟩
    unfold KW
    rw [if_neg (by decide)]
    rw [if_neg (by decide)]
    rw [if_neg (by decide)]
    rw [if_neg (by decide)]
    rw [if_pos rfl, upd_self]
  by_cases q800 : N = 800
  · subst q800
    refine ⟨d.s 4, TO_800 d m t, ?_⟩
    unfold KW
    rw [if_neg (by decide)]
    rw [if_neg (by decide)]
    rw [if_neg (by decide)]
    rw [if_neg (by decide)]
    rw [if_neg (by decide)]
    rw [if_pos rfl, upd_self]
  by_cases q832 : N = 832
  · subst q832
    refine ⟨d.s 6, TO_832 d m t, ?_⟩
    unfold KW
    rw [if_neg (by decide)]
    rw [if_neg (by decide)]
    rw [if_neg (by decide)]
    rw [if_neg (by decide)]
    rw [if_neg (by decide)]
    rw [if_neg (by decide)]
    rw [if_pos rfl, upd_self]
  by_cases q833 : N = 833
  · subst q833
    refine ⟨d.s 7, TO_833 d m t, ?_⟩
    unfold KW
    rw [if_neg (by decide)]
    rw [if_neg (by decide)]
    rw [if_neg (by decide)]
    rw [if_neg (by decide)]
    rw [if_neg (by decide)]
    rw [if_neg (by decide)]
    rw [if_neg (by decide)]
    rw [if_pos rfl, upd_self]
  by_cases q834 : N = 834
  · subst q834
    refine ⟨d.s 8, TO_834 d m t, ?_⟩
    unfold KW
    rw [if_neg (by decide)]
    rw [if_neg (by decide)]
    rw [if_neg (by decide)]
    rw [if_neg (by decide)]
    rw [if_neg (by decide)]
    rw [if_neg (by decide)]
    rw [if_neg (by decide)]
    rw [if_neg (by decide)]
    rw [if_pos rfl, upd_self]
  by_cases q835 : N = 835
  · subst q835
    refine ⟨d.s 9, TO_835 d m t, ?_⟩
    unfold KW
    rw [if_neg (by decide)]
    rw [if_neg (by decide)]
    rw [if_neg (by decide)]
    rw [if_neg (by decide)]
    rw [if_neg (by decide)]
    rw [if_neg (by decide)]
    rw [if_neg (by decide)]
    rw [if_neg (by decide)]
    rw [if_neg (by decide)]
    rw [if_pos rfl, upd_self]
  by_cases q2816 : N = 2816
  · subst q2816
    refine ⟨d.s 10, TO_2816 d m t, ?_⟩
    unfold KW
    rw [if_neg (by decide)]
    rw [if_neg (by decide)]
    rw [if_neg (by decide)]
    rw [if_neg (by decide)]
    rw [if_neg (by decide)]
    rw [if_neg (by decide)]
    rw [if_neg (by decide)]
    rw [if_neg (by decide)]
    rw [if_neg (by decide)]
    rw [if_neg (by decide)]
    rw [if_pos rfl, upd_self]
  by_cases q2818 : N = 2818
  · subst q2818
    refine ⟨d.s 11, TO_2818 d m t, ?_⟩
    unfold KW
    rw [if_neg (by decide)]
    rw [if_neg (by decide)]
    rw [if_neg (by decide)]
    rw [if_neg (by decide)]
    rw [if_neg (by decide)]
    rw [if_neg (by decide)]
    rw [if_neg (by decide)]
    rw [if_neg (by decide)]
    rw [if_neg (by decide)]
    rw [if_neg (by decide)]
    rw [if_neg (by decide)]
    rw [if_pos rfl, upd_self]
  by_cases q928 : N = 928
  · subst q928
    refine ⟨cfgB (PC d.c) 0, (TO_928 d m t).trans (cfgB_n _ _), ?_⟩
    unfold KW
    rw [if_neg (by decide)]
    rw [if_neg (by decide)]
    rw [if_neg (by decide)]
    rw [if_neg (by decide)]
    rw [if_neg (by decide)]
    rw [if_neg (by decide)]
    rw [if_neg (by decide)]
    rw [if_neg (by decide)]
    rw [if_neg (by decide)]
    rw [if_neg (by decide)]
    rw [if_neg (by decide)]
    rw [if_neg (by decide)]
    rw [if_pos rfl, pr_c hd, sR_back0 _ (pr_c hd), pr_a hd]
  by_cases q930 : N = 930
  · subst q930
    refine ⟨cfgB (PC d.c) 8, (TO_930 d m t).trans (cfgB_n _ _), ?_⟩
    unfold KW
    rw [if_neg (by decide)]
    rw [if_neg (by decide)]
    rw [if_neg (by decide)]
    rw [if_neg (by decide)]
    rw [if_neg (by decide)]
    rw [if_neg (by decide)]
    rw [if_neg (by decide)]
    rw [if_neg (by decide)]
    rw [if_neg (by decide)]
    rw [if_neg (by decide)]
    rw [if_neg (by decide)]
    rw [if_neg (by decide)]
    rw [if_neg (by decide), if_pos rfl, pr_c hd, sR_back2 _ (pr_c hd), pr_a hd]
  by_cases hw : 944 ≤ N ∧ N ≤ 959
  · refine ⟨d.a (N - 944).toNat, TO_in d m t N hw, ?_⟩
    unfold KW
    rw [if_neg q768]
    rw [if_neg q772]
    rw [if_neg q773]
    rw [if_neg q774]
    rw [if_neg q778]
    rw [if_neg q800]
    rw [if_neg q832]
    rw [if_neg q833]
    rw [if_neg q834]
    rw [if_neg q835]
    rw [if_neg q2816]
    rw [if_neg q2818]
    rw [if_neg q928, if_neg q930, if_pos hw, pr_c hd, pr_a hd]
    have e : sA d.c d.a (N - 944) (d.a (N - 944).toNat) = d.a := by
      unfold sA
      split
      · rfl
      · have : pad (d.a (N - 944).toNat) = d.a (N - 944).toNat := congrFun (pr_a hd) _
        rw [this, upd_self]
    rw [e]
  obtain ⟨b, hb⟩ := TO_word d m t N
  refine ⟨b, hb, ?_⟩
  unfold KW
  rw [if_neg q768]
  rw [if_neg q772]
  rw [if_neg q773]
  rw [if_neg q774]
  rw [if_neg q778]
  rw [if_neg q800]
  rw [if_neg q832]
  rw [if_neg q833]
  rw [if_neg q834]
  rw [if_neg q835]
  rw [if_neg q2816]
  rw [if_neg q2818]
  rw [if_neg q928, if_neg q930, if_neg hw]
theorem WR_back (d : Cp) (hd : PR d = d) (m t : BitVec 64) (N : Int) : ∃ b, TO d m t N = n64 b ∧ WR d N b = d := by
  obtain ⟨b, h1, h2⟩ := KW_back d hd m t N
  refine ⟨b, h1, ?_⟩
  unfold WR
  split
  · rw [hd, h2, hd]
  · exact hd
end Go.Proofs.Ytnnkeodiacdmaab
