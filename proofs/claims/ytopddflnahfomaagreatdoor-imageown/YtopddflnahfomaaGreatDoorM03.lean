/-
  Ira Irb.
-/
import Derived.Test.YtopddflnahfomaaGreatDoorM02
import Derived.Deep.Cut
import Derived.WalkLawsBesides
namespace Go.Proofs.YtopddflnahfomaaGreatDoor
set_option linter.unusedVariables false
open Go.ChangeShapes Go.WideShapes Go.ChangeAt Go.RowKit Go.Deep
/-- The number whose lowest k bytes these are. -/
def tkN (l : List Int) : Nat → Nat
  | 0 => 0
  | k + 1 => tkN l k + (l.getD k 0).toNat * 256 ^ k
def AllB (l : List Int) : Prop := ∀ x ∈ l, 0 ≤ x ∧ x ≤ 255
theorem getD_byte {l : List Int} (h : AllB l) (j : Nat) : 0 ≤ l.getD j 0 ∧ l.getD j 0 ≤ 255 := by
  by_cases hj : j < l.length
  · have : l.getD j 0 ∈ l := by simp [hj]
    exact h _ this
  · have e : l.getD j 0 = 0 := by simp [List.getD, List.getElem?_eq_none (show l.length ≤ j by omega)]
    omega
theorem tkN_lt {l : List Int} (h : AllB l) : ∀ k, tkN l k < 256 ^ k
  | 0 => by simp [tkN]
  | k + 1 => by
    have ih := tkN_lt h k
    have hb := getD_byte h k
    have h2 : (l.getD k 0).toNat * 256 ^ k ≤ 255 * 256 ^ k := Nat.mul_le_mul_right _ (by omega)
    simp only [tkN, Nat.pow_succ]
    omega
theorem nat64 {N : Nat} (h : N < 18446744073709551616) : ((N : Nat) : Int) = n64 (BitVec.ofNat 64 N) := by
  unfold n64; rw [BitVec.toNat_ofNat, Nat.mod_eq_of_lt h]
theorem pow8 (k : Nat) : (2 : Nat) ^ (8 * k) = 256 ^ k := by rw [Nat.pow_mul]
theorem take_step {l : List Int} (h : AllB l) (k : Nat) (hk : k < 8) :
    bits .or .u64 ((tkN l k : Nat) : Int) (IntKind.u64.wrap (l.getD k 0 * 2 ^ (8 * k))) = ((tkN l (k + 1) : Nat) : Int) := by
  have hb := getD_byte h k
  have hlt := tkN_lt h k
  have h64 : (256 : Nat) ^ (k + 1) ≤ 256 ^ 8 := Nat.pow_le_pow_right (by decide) (by omega)
  have hd : ((l.getD k 0).toNat : Int) = l.getD k 0 := by omega
  have hprod : (l.getD k 0).toNat * 256 ^ k ≤ 255 * 256 ^ k := Nat.mul_le_mul_right _ (by omega)
  have hp : (l.getD k 0).toNat * 256 ^ k < 18446744073709551616 := by
    have : 255 * 256 ^ k < 256 ^ (k + 1) := by rw [Nat.pow_succ]; have := Nat.pow_pos (n := k) (show 0 < 256 by decide); omega
    exact Nat.lt_of_le_of_lt hprod (Nat.lt_of_lt_of_le this h64)
  have hk1 : tkN l (k + 1) < 18446744073709551616 := Nat.lt_of_lt_of_le (tkN_lt h (k + 1)) h64
  have hk0 : tkN l k < 18446744073709551616 := Nat.lt_of_le_of_lt (by rw [tkN]; omega) hk1
  have e1 : l.getD k 0 * 2 ^ (8 * k) = (((l.getD k 0).toNat * 256 ^ k : Nat) : Int) := by
    rw [Int.natCast_mul, hd, ← pow8]; rfl
  rw [e1, nat64 hp, wrap_n64, ofInt_n64, nat64 hk0, n64_or, nat64 hk1]
  congr 1
  apply BitVec.eq_of_toNat_eq
  rw [BitVec.toNat_or, BitVec.toNat_ofNat, BitVec.toNat_ofNat, BitVec.toNat_ofNat, Nat.mod_eq_of_lt hk0, Nat.mod_eq_of_lt hp, Nat.mod_eq_of_lt hk1, tkN, Nat.or_comm, Nat.mul_comm, ← pow8, ← Nat.two_pow_add_eq_or_of_lt (by rw [pow8]; exact hlt)]
  omega

theorem AllB.drop {l : List Int} (h : AllB l) (p : Nat) : AllB (l.drop p) := fun x hx => h x (List.mem_of_mem_drop hx)
theorem drop_getD (l : List Int) (p j : Nat) : (l.drop p).getD j 0 = l.getD (p + j) 0 := by
  rw [List.getD_eq_getElem?_getD, List.getD_eq_getElem?_getD, List.getElem?_drop]
/-- The number of k bytes at a place. -/
def vl (b : List Int) (p k : Nat) : Nat := tkN (b.drop p) k
theorem vl_lt {b : List Int} (h : AllB b) (p k : Nat) : vl b p k < 256 ^ k := tkN_lt (h.drop p) k
theorem vl_lt8 {b : List Int} (h : AllB b) (p k : Nat) (hk : k ≤ 8) : vl b p k < 18446744073709551616 := Nat.lt_of_lt_of_le (vl_lt h p k) (Nat.pow_le_pow_right (by decide) hk)
theorem vl_step {b : List Int} (h : AllB b) (p k : Nat) (hk : k < 8) :
    bits .or .u64 ((vl b p k : Nat) : Int) (IntKind.u64.wrap (b.getD (p + k) 0 * 2 ^ (8 * k))) = ((vl b p (k + 1) : Nat) : Int) := by
  rw [← drop_getD]
  exact take_step (h.drop p) k hk
/-- A fault: its place and its reason. -/
abbrev Flt := Option (Nat × Nat)
def magL : List Int := [127, 69, 76, 70, 2, 1, 1]
/-- The first bytes, r of them, from i on. -/
def idF (b : List Int) : Nat → Nat → Flt
  | 0, _ => none
  | r + 1, i => if b.length ≤ i then some (b.length, 20) else if b.getD i 0 ≠ magL.getD i 0 then some (i, 21) else idF b r (i + 1)
/-- The head, behind them. -/
def hdF (b : List Int) : Flt :=
  if b.length < 64 then some (b.length, 20) else if vl b 16 2 ≠ 2 then some (16, 21) else if vl b 18 2 ≠ 243 then some (18, 21) else if vl b 20 4 ≠ 1 then some (20, 21)
  else if vl b 24 8 % 2 = 1 then some (24, 22) else if 1 < vl b 48 4 then some (48, 22) else if vl b 52 2 ≠ 64 then some (52, 22) else none
abbrev room (b : List Int) (p n : Nat) : Prop := n ≤ b.length ∧ p ≤ b.length - n
/-- What the head says of the program headers. -/
def phF (b : List Int) : Flt :=
  if vl b 56 2 ≠ 0 ∧ vl b 54 2 ≠ 56 then some (54, 22) else if 16 < vl b 56 2 then some (56, 2) else if ¬ room b (vl b 32 8) (56 * vl b 56 2) then some (32, 20) else none
/-- A part as a program header tells it. -/
structure Pt where
  a : Nat
  s : Nat
  f : Nat
  p : Nat
  n : Nat
def fwN (w : Nat) : Nat := w / 4 % 2 + w / 2 % 2 * 2 + w % 2 * 4
def ptAt (b : List Int) (h : Nat) : Pt := ⟨vl b (h + 24) 8, vl b (h + 40) 8, fwN (vl b (h + 4) 4), vl b (h + 8) 8, vl b (h + 32) 8⟩
abbrev isPt (b : List Int) (h : Nat) : Prop := vl b h 4 = 1 ∧ ¬ (vl b (h + 40) 8 = 0 ∧ vl b (h + 32) 8 = 0)
/-- Two parts meet. -/
def meetB (x1 y1 x2 y2 : BitVec 64) : Bool := decide (n64 x1 ≤ n64 (x2 + (y2 - 1#64))) && decide (n64 x2 ≤ n64 (x1 + (y1 - 1#64)))
def mtB (x y : Pt) : Bool := meetB (BitVec.ofNat 64 x.a) (BitVec.ofNat 64 x.s) (BitVec.ofNat 64 y.a) (BitVec.ofNat 64 y.s)
/-- A part's own fault, but for meeting another. -/
def ptF (b : List Int) (h : Nat) : Flt :=
  if 7 < vl b (h + 4) 4 then some (h + 4, 23) else if vl b (h + 40) 8 < vl b (h + 32) 8 then some (h + 32, 23) else if ¬ room b (vl b (h + 8) 8) (vl b (h + 32) 8) then some (h + 8, 20)
  else if (BitVec.ofNat 64 (vl b (h + 24) 8) + (BitVec.ofNat 64 (vl b (h + 40) 8) - 1#64)).toNat < (BitVec.ofNat 64 (vl b (h + 24) 8)).toNat then some (h + 24, 23) else none
/-- The parts of the headers ahead and the first fault, and one header more. -/
def prS (b : List Int) (h : Nat) (r : List Pt × Flt) : List Pt × Flt :=
  if r.2.isSome then r else if isPt b h then (if (ptF b h).isSome then (r.1, ptF b h) else if r.1.any (mtB (ptAt b h)) then (r.1, some (h + 24, 24)) else (r.1 ++ [ptAt b h], none)) else r
/-- The parts of the first i headers, and the first fault. -/
def prL (b : List Int) (P : Nat) : Nat → List Pt × Flt
  | 0 => ([], none)
  | i + 1 => prS b (P + 56 * i) (prL b P i)
end Go.Proofs.YtopddflnahfomaaGreatDoor
namespace Go.Proofs.YtopddflnahfomaaGreatDoor
set_option linter.unusedVariables false
open Go.ChangeShapes Go.WideShapes Go.ChangeAt Go.RowKit Go.Deep
/-- A refusal: the fault that was thrown. -/
def Pan (w : World) (F : Nat × Nat) (e : Ending) (w' : World) : Prop := ∃ g, e = .panicked [{ v := .iface 65 (.pointer (some ⟨g, 0, none⟩)), recovered := false }] ∧ w.heap.size ≤ g ∧ w'.heap[g]? = some (.cells #[.int .i64 0, .int .i64 F.1, .int .i64 F.2] 95 (0, 0)) ∧ Below w.heap.size w w'
theorem Pan.later {w0 w : World} {F : Nat × Nat} {e : Ending} {w' : World} (hb : Below w0.heap.size w0 w) (h : Pan w F e w') : Pan w0 F e w' := by
  obtain ⟨g, h1, h2, h3, h4⟩ := h
  exact ⟨g, h1, Nat.le_trans hb.size h2, h3, hb.trans (h4.mono hb.size)⟩
theorem refuse_f (y q : Int) (w : World) : Calls Tryz.prog 27 #[.bool false, .int .i64 y, .int .i64 q] w fun e w' => e = .returned (.tuple #[]) ∧ w = w' := by
  go_enter Tryz.func27, Tryz.ntmps27
  go_wp2
  first | go_end0 | refine bodyPost_ret (results_none rfl _ _ _) rfl ?_
  exact ⟨rfl, rfl⟩
theorem refuse_t (y q : Nat) (w : World) : Calls Tryz.prog 27 #[.bool true, .int .i64 y, .int .i64 q] w fun e w' => Pan w (q, y) e w' := by
  go_enter Tryz.func27, Tryz.ntmps27
  go_wp2
  --@CUT0
  exact ⟨rfl, w.heap.size, rfl, Nat.le_refl _, heap_alloc_new w _, (Below.refl _ _).alloc (Nat.le_refl _) _⟩
set_option maxHeartbeats 2000000 in
theorem number_c {b : List Int} (hB : AllB b) (hl : b.length ≤ 200000) (vb : Value) (p k : Nat) (hk : k ≤ 8) (hp : p + k ≤ b.length) (w : World) (hv : Byt w vb b) :
    Calls Tryz.prog 56 #[.agg #[vb], .int .i64 p, .int .i64 k] w fun e w' => e = .returned (.int .u64 ((vl b p k : Nat) : Int)) ∧ Below w.heap.size w w' := by
  have hv1 := hv.later ((Below.refl w.heap.size w).alloc (Nat.le_refl _) (.cells #[vb] 54)) rfl
  obtain ⟨a, cap, rfl, hc, _, hr⟩ := hv1
  have HB : Hid (AllB b) := hB
  have HR : Hid (b ≠ [] → ∃ g off, a = some ⟨g, off, none⟩ ∧ g < (w.alloc (.cells #[.slice a b.length cap] 54)).heap.size ∧ ∀ j, j < b.length → (w.alloc (.cells #[.slice a b.length cap] 54)).cell? ⟨g, off + j, none⟩ = some (.int .u8 (b.getD j 0))) := hr
  have hkI : (k : Int) ≤ 8 := by omega
  have hpI : (p : Int) + k ≤ b.length := by omega
  have hlI : (b.length : Int) ≤ 200000 := by omega
  have HP : Hid (p + k ≤ b.length) := hp
  have HBL : Hid (Below w.heap.size w (w.alloc (.cells #[.slice a b.length cap] 54))) := (Below.refl _ _).alloc (Nat.le_refl _) _
  have k0 : (w.alloc (.cells #[.slice a b.length cap] 54)).cell? ⟨w.heap.size, 0, none⟩ = some (.slice a b.length cap) := by simp
  clear hr hv hB
  go_enter Tryz.func56, Tryz.ntmps56
  go_wp2
  generalize w.alloc (.cells #[.slice a b.length cap] 54) = w1 at *
  go_loopw [7, 8, 10] (fun v _ i wr => ∃ q : Nat, q ≤ k ∧ i = .int .i64 q ∧ v = .int .u64 ((vl b p q : Nat) : Int) ∧ wr = w1) (fun _ _ i _ => k - (intOf i).toNat)
  case atStart => exact ⟨0, Nat.zero_le _, rfl, rfl, rfl⟩
  case round =>
    obtain ⟨q, hq, rfl, rfl, rfl⟩ := hrel
    by_cases hlt : q < k
    · obtain ⟨g, off, rfl, _, hcell⟩ := HR.out (by intro e; have := HP.out; rw [e] at this; simp only [List.length_nil] at this; omega)
      have hq8 : q < 8 := by omega
      have hqI : (q : Int) < k := by omega
      have hq8I : (q : Int) < 8 := by omega
      have hpq : (p : Int) + q < b.length := by omega
      have hce := hcell (p + q) (by have := HP.out; omega)
      have hby := getD_byte HB.out (p + q)
      have HS : Hid (bits .or .u64 ((vl b p q : Nat) : Int) (IntKind.u64.wrap (b.getD (p + q) 0 * 2 ^ (8 * q))) = ((vl b p (q + 1) : Nat) : Int)) := vl_step HB.out p q hq8
      clear hcell
      obtain ⟨z, hz⟩ : ∃ z, z = b.getD (p + q) 0 := ⟨_, rfl⟩
      rw [← hz] at hce hby
      have HZ : Hid (z = b.getD (p + q) 0) := hz
      clear hz
      obtain ⟨M, hM⟩ : ∃ M, M = vl b p q := ⟨_, rfl⟩
      rw [← hM]
      have HM : Hid (M = vl b p q) := hM
      clear hM
      go_wp2
      go_roundw
      case rel => exact ⟨q + 1, by omega, by go_num, by rw [← HS.out, ← HZ.out, ← HM.out], trivial⟩
      case measure => simp only [intOf]; omega
    · obtain rfl : q = k := by omega
      have hqI : ¬ ((q : Int) < q) := by omega
      go_wp2
      go_ret
      exact ⟨rfl, HBL.out⟩
theorem half_c {b : List Int} (hB : AllB b) (hl : b.length ≤ 200000) (vb : Value) (p : Nat) (pI : Int) (hpI : pI = p) (hp : p + 2 ≤ b.length) (w : World) (hv : Byt w vb b) :
    Calls Tryz.prog 46 #[.agg #[vb], .int .i64 pI] w fun e w' => e = .returned (.int .u64 ((vl b p 2 : Nat) : Int)) ∧ Below w.heap.size w w' := by
  subst hpI
  have HV : Hid (∀ w', Below w.heap.size w w' → Byt w' vb b) := fun w' hb => hv.later hb rfl
  have HB : Hid (AllB b) := hB
  obtain ⟨a, cap, rfl, hc, _, _⟩ := hv
  have HBL : Hid (Below w.heap.size w (w.alloc (.cells #[.slice a b.length cap] 54))) := (Below.refl _ _).alloc (Nat.le_refl _) _
  go_enter Tryz.func46, Tryz.ntmps46
  go_wp2_with (go_at_call 56; refine (number_c HB.out hl _ p 2 (by omega) hp _ (HV.out _ HBL.out)).mono ?_; rintro e w2 ⟨rfl, hb2⟩)
  go_ret
  exact ⟨rfl, HBL.out.trans (hb2.mono HBL.out.size)⟩
theorem word_c {b : List Int} (hB : AllB b) (hl : b.length ≤ 200000) (vb : Value) (p : Nat) (pI : Int) (hpI : pI = p) (hp : p + 4 ≤ b.length) (w : World) (hv : Byt w vb b) :
    Calls Tryz.prog 47 #[.agg #[vb], .int .i64 pI] w fun e w' => e = .returned (.int .u64 ((vl b p 4 : Nat) : Int)) ∧ Below w.heap.size w w' := by
  subst hpI
  have HV : Hid (∀ w', Below w.heap.size w w' → Byt w' vb b) := fun w' hb => hv.later hb rfl
  have HB : Hid (AllB b) := hB
  obtain ⟨a, cap, rfl, hc, _, _⟩ := hv
  have HBL : Hid (Below w.heap.size w (w.alloc (.cells #[.slice a b.length cap] 54))) := (Below.refl _ _).alloc (Nat.le_refl _) _
  go_enter Tryz.func47, Tryz.ntmps47
  go_wp2_with (go_at_call 56; refine (number_c HB.out hl _ p 4 (by omega) hp _ (HV.out _ HBL.out)).mono ?_; rintro e w2 ⟨rfl, hb2⟩)
  go_ret
  exact ⟨rfl, HBL.out.trans (hb2.mono HBL.out.size)⟩
theorem double_c {b : List Int} (hB : AllB b) (hl : b.length ≤ 200000) (vb : Value) (p : Nat) (pI : Int) (hpI : pI = p) (hp : p + 8 ≤ b.length) (w : World) (hv : Byt w vb b) :
    Calls Tryz.prog 32 #[.agg #[vb], .int .i64 pI] w fun e w' => e = .returned (.int .u64 ((vl b p 8 : Nat) : Int)) ∧ Below w.heap.size w w' := by
  subst hpI
  have HV : Hid (∀ w', Below w.heap.size w w' → Byt w' vb b) := fun w' hb => hv.later hb rfl
  have HB : Hid (AllB b) := hB
  obtain ⟨a, cap, rfl, hc, _, _⟩ := hv
  have HBL : Hid (Below w.heap.size w (w.alloc (.cells #[.slice a b.length cap] 54))) := (Below.refl _ _).alloc (Nat.le_refl _) _
  go_enter Tryz.func32, Tryz.ntmps32
  go_wp2_with (go_at_call 56; refine (number_c HB.out hl _ p 8 (by omega) hp _ (HV.out _ HBL.out)).mono ?_; rintro e w2 ⟨rfl, hb2⟩)
  go_ret
  exact ⟨rfl, HBL.out.trans (hb2.mono HBL.out.size)⟩
set_option maxRecDepth 100000 in
set_option maxHeartbeats 1000000 in
theorem hasRoom_c {b : List Int} (hl : b.length ≤ 200000) (vb : Value) (p n : Nat) (hp : p < 18446744073709551616) (hn : n < 18446744073709551616) (w : World) (hv : Byt w vb b) :
    Calls Tryz.prog 66 #[.agg #[vb], .int .u64 p, .int .u64 n] w fun e w' => e = .returned (.bool (decide (room b p n))) ∧ Below w.heap.size w w' := by
  obtain ⟨a, cap, rfl, hc, _, _⟩ := hv
  have HBL : Hid (Below w.heap.size w (w.alloc (.cells #[.slice a b.length cap] 54))) := (Below.refl _ _).alloc (Nat.le_refl _) _
  have hlI : (b.length : Int) ≤ 200000 := by omega
  have hpI : (p : Int) < 18446744073709551616 := by omega
  have hnI : (n : Int) < 18446744073709551616 := by omega
  obtain ⟨d, hd⟩ : ∃ d, d = decide (room b p n) := ⟨_, rfl⟩
  rw [← hd]
  have HD : Hid (d = decide (room b p n)) := hd
  clear hd
  by_cases h1 : n ≤ b.length
  · have h1I : (n : Int) ≤ b.length := by omega
    by_cases h2 : p ≤ b.length - n
    · have h2I : (p : Int) ≤ (b.length : Int) - n := by omega
      have HE : Hid (d = true) := by unfold Hid; rw [HD.out]; exact decide_eq_true ⟨h1, h2⟩
      clear h1 h2
      go_enter Tryz.func66, Tryz.ntmps66
      go_wp2
      --@CUT1
      go_ret
      exact ⟨by rw [HE.out]; first | rfl | (simp; done) | (simp; omega), HBL.out⟩
    · have h2I : (b.length : Int) - n < (p : Int) := by omega
      have HE : Hid (d = false) := by unfold Hid; rw [HD.out]; exact decide_eq_false (fun h => h2 h.2)
      clear h1 h2
      go_enter Tryz.func66, Tryz.ntmps66
      go_wp2
      go_ret
      exact ⟨by rw [HE.out]; first | rfl | (simp; done) | (simp; omega), HBL.out⟩
  · have h1I : (b.length : Int) < (n : Int) := by omega
    have HE : Hid (d = false) := by unfold Hid; rw [HD.out]; exact decide_eq_false (fun h => h1 h.1)
    have h1d : ¬ ((n : Int) ≤ (b.length : Int)) := by omega
    clear h1 h1I hp hn hl hpI
    go_enter Tryz.func66, Tryz.ntmps66
    go_upto_region 2 with fail
    go_wp2
    go_ret
    exact ⟨by rw [HE.out]; first | rfl | (simp; done) | (simp; omega), HBL.out⟩
set_option maxRecDepth 100000 in
set_option maxHeartbeats 1000000 in
theorem placeAt_c {b : List Int} (hB : AllB b) (hl : b.length ≤ 200000) (vb : Value) (q n : Nat) (qI : Int) (hqI : qI = q) (hq : q + 8 ≤ b.length) (hn : n < 18446744073709551616) (w : World) (hv : Byt w vb b) :
    Calls Tryz.prog 48 #[.agg #[vb], .int .i64 qI, .int .u64 n] w fun e w' => (room b (vl b q 8) n ∧ e = .returned (.int .i64 ((vl b q 8 : Nat) : Int)) ∧ Below w.heap.size w w') ∨ (¬ room b (vl b q 8) n ∧ Pan w (q, 20) e w') := by
  subst hqI
  have HV : Hid (∀ w', Below w.heap.size w w' → Byt w' vb b) := fun w' hb => hv.later hb rfl
  have HB : Hid (AllB b) := hB
  have hlt := vl_lt8 hB q 8 (Nat.le_refl _)
  obtain ⟨a, cap, rfl, hc, _, _⟩ := hv
  have HBL : Hid (Below w.heap.size w (w.alloc (.cells #[.slice a b.length cap] 54))) := (Below.refl _ _).alloc (Nat.le_refl _) _
  have k0 : Hid (∀ w', Below (w.alloc (.cells #[.slice a b.length cap] 54)).heap.size (w.alloc (.cells #[.slice a b.length cap] 54)) w' → w'.cell? ⟨w.heap.size, 0, none⟩ = some (.slice a b.length cap)) := fun w' hb => by rw [hb.cell (by simp)]; simp
  have cD : Hid (Calls Tryz.prog 32 #[.agg #[.slice a b.length cap], .int .i64 q] (w.alloc (.cells #[.slice a b.length cap] 54)) fun e w' => e = .returned (.int .u64 ((vl b q 8 : Nat) : Int)) ∧ Below (w.alloc (.cells #[.slice a b.length cap] 54)).heap.size (w.alloc (.cells #[.slice a b.length cap] 54)) w') := double_c hB hl _ q q rfl hq _ (HV.out _ HBL.out)
  have HRM : Hid (∀ P, room b P n → P ≤ b.length) := fun P h => by unfold room at h; omega
  obtain ⟨P, hP⟩ : ∃ P, P = vl b q 8 := ⟨_, rfl⟩
  rw [← hP] at hlt cD ⊢
  clear hP hB
  have hPI : (P : Int) < 18446744073709551616 := by omega
  by_cases hr : room b P n
  · have hPl : (P : Int) ≤ 200000 := by have := HRM.out P hr; omega
    have HRR : Hid (room b P n) := hr
    have hd : decide (room b P n) = true := decide_eq_true hr
    clear hr
    go_enter Tryz.func48, Tryz.ntmps48
    go_wp2_with (first | (go_at_call 32; refine cD.out.mono ?_; rintro e w2 ⟨rfl, hb2⟩; have HB2 : Hid (Below w.heap.size w w2) := HBL.out.trans (hb2.mono HBL.out.size); have c2 := k0.out w2 hb2; clear hb2) | (go_at_call 66; refine (hasRoom_c hl _ P n hlt hn w2 (HV.out _ HB2.out)).mono ?_; rw [hd]; rintro e w3 ⟨rfl, hb3⟩; have HB3 : Hid (Below w.heap.size w w3) := HB2.out.trans (hb3.mono HB2.out.size); clear hb3) | (go_at_call 27; refine (refuse_f _ _ _).mono ?_; rintro e w' ⟨rfl, rfl⟩))
    go_ret
    exact .inl ⟨HRR.out, rfl, HB3.out⟩
  · have HRR : Hid (¬ room b P n) := hr
    have hd : decide (room b P n) = false := decide_eq_false hr
    clear hr
    go_enter Tryz.func48, Tryz.ntmps48
    go_wp2_with (first | (go_at_call 32; refine cD.out.mono ?_; rintro e w2 ⟨rfl, hb2⟩; have HB2 : Hid (Below w.heap.size w w2) := HBL.out.trans (hb2.mono HBL.out.size); have c2 := k0.out w2 hb2; clear hb2) | (go_at_call 66; refine (hasRoom_c hl _ P n hlt hn w2 (HV.out _ HB2.out)).mono ?_; rw [hd]; rintro e w3 ⟨rfl, hb3⟩; have HB3 : Hid (Below w.heap.size w w3) := HB2.out.trans (hb3.mono HB2.out.size); clear hb3) | (go_at_call 27; refine (refuse_t 20 q _).mono ?_; intro e w4 hpan; obtain ⟨g, rfl, h2, h3, h4⟩ := hpan; have HPN : Hid (Pan w3 (q, 20) (.panicked [{ v := .iface 65 (.pointer (some ⟨g, 0, none⟩)), recovered := false }]) w4) := ⟨g, rfl, h2, h3, h4⟩; clear h2 h3 h4))
    --@CUT2
    exact ⟨rfl, .inr ⟨HRR.out, HPN.out.later HB3.out⟩⟩
end Go.Proofs.YtopddflnahfomaaGreatDoor
