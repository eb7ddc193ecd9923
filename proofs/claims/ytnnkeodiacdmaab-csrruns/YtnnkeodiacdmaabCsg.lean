/-
  Who may read and write.
-/
import Derived.Test.YtnnkeodiacdmaabCsf
namespace Go.Proofs.Ytnnkeodiacdmaab
set_option linter.unusedVariables false
set_option maxRecDepth 100000
open Go.ChangeShapes Go.WideShapes Go.ChangeAt Go.RowKit Go.Deep
/-- The lowest mode that reaches a number; its kind. -/
def mo (n : Int) : Int := bits .and .i64 (n / 256) 3
def ki (n : Int) : Int := bits .and .i64 (n / 1024) 3
set_option maxRecDepth 100000 in
theorem modeOf_c (n : Int) (w : World) : Calls Try.prog 33 #[.int .i64 n] w fun e w' => e = .returned (.int .i64 (mo n)) ∧ w' = w := by
  unfold mo
  go_enter Try.func33, Try.ntmps33
  go_wp2
  go_ret
  exact ⟨rfl, rfl⟩
set_option maxRecDepth 100000 in
theorem isReadOnly_c (n : Int) (w : World) : Calls Try.prog 38 #[.int .i64 n] w fun e w' => e = .returned (.bool (ki n == 3)) ∧ w' = w := by
  unfold ki
  go_enter Try.func38, Try.ntmps38
  go_wp2
  go_ret
  exact ⟨rfl, rfl⟩
/-- Is it a counter that U may be let read? -/
def cn (n : Int) : Bool := wi n 3072 3103
set_option maxRecDepth 100000 in
theorem counterOf_c (n : Int) (hi : I64 n) (w : World) : Calls Try.prog 32 #[.int .i64 n] w fun e w' => e = .returned (.tuple #[.int .i64 (if cn n then n - 3072 else 0), .bool (cn n)]) ∧ w' = w := by
  unfold I64 at hi
  by_cases h : 3072 ≤ n ∧ n ≤ 3103
  · have e : cn n = true := by simp [cn, wi, h]
    rw [e, if_pos rfl]
    go_enter Try.func32, Try.ntmps32
    go_wp2
    go_ret2
    exact ⟨rfl, rfl⟩
  · have e : cn n = false := by simp only [cn, wi, decide_eq_false_iff_not]; exact h
    rw [e, if_neg (by decide)]
    clear e
    by_cases h2 : -9223372036854775808 + 3072 ≤ n
    · by_cases h3 : n < 3072
      · go_enter Try.func32, Try.ntmps32
        go_wp2
        go_ret2
        exact ⟨rfl, rfl⟩
      · have h4 : 3104 ≤ n := by omega
        have h5 : ¬ n - 3072 < 0 := by omega
        have h6 : 32 ≤ n - 3072 := by omega
        go_enter Try.func32, Try.ntmps32
        go_wp2
        go_ret2
        exact ⟨rfl, rfl⟩
    · have hw : IntKind.i64.wrap (n - 3072) = n - 3072 + 18446744073709551616 := by
        rw [IntKind.wrap_i64]; omega
      obtain ⟨z, hz⟩ : ∃ z, z = n - 3072 + 18446744073709551616 := ⟨_, rfl⟩
      rw [← hz] at hw
      have h5 : ¬ z < 0 := by omega
      have h6 : 32 ≤ z := by omega
      clear hz
      go_enter Try.func32, Try.ntmps32
      go_wp2
      go_ret2
      exact ⟨rfl, rfl⟩
/-- May such a number be read? -/
def mr (k : Cp) (n : Int) : Bool := !(decide (k.md = 0) && cn n && decide (k.s 3 >>> (n - 3072).toNat &&& 1#64 = 0#64)) && decide (mo n ≤ k.md)
/-- May such a number be written? -/
def mw (k : Cp) (n : Int) : Bool := decide (mo n ≤ k.md) && !(ki n == 3)
theorem Sr.md {w : World} {g : Nat} {k : Cp} {m t : BitVec 64} (h : Sr w g k m t) : w.cell? ⟨g, 33, none⟩ = some (.int .i64 k.md) := by
  have := (Row.stc h).1 33 (by omega)
  rwa [Nat.zero_add] at this
set_option maxRecDepth 100000 in
set_option maxHeartbeats 1000000 in
theorem mayRead_c (g : Nat) (k : Cp) (m t : BitVec 64) (n : Int) (hi : I64 n) (w : World) (h : Sr w g k m t) : Calls Try.prog 20 #[.pointer (some ⟨g, 0, none⟩), .int .i64 n] w fun e w' => e = .returned (.bool (mr k n)) ∧ Below w.heap.size w w' := by
  obtain ⟨d, hd⟩ : ∃ d, d = k.md := ⟨_, rfl⟩
  have c33 : w.cell? ⟨g, 33, none⟩ = some (.int .i64 d) := by rw [hd]; exact h.md
  have c38 : w.cell? ⟨g, 38, none⟩ = some (.int .u64 (n64 (k.s 3))) := h.s 3 (by omega)
  have HC : Hid (∀ W, Calls Try.prog 32 #[.int .i64 n] W fun e w' => e = .returned (.tuple #[.int .i64 (if cn n then n - 3072 else 0), .bool (cn n)]) ∧ w' = W) := counterOf_c n hi
  have HM : Hid (∀ W, Calls Try.prog 33 #[.int .i64 n] W fun e w' => e = .returned (.int .i64 (mo n)) ∧ w' = W) := modeOf_c n
  have := later_nonempty w
  have L33 : ∀ x : Later w, x.1.cell? ⟨g, 33, none⟩ = some (.int .i64 d) := later_at h.lt c33
  unfold mr
  rw [← hd]
  clear h hd
  generalize mo n = q at HM ⊢
  cases hc : cn n with
  | false =>
    rw [hc, if_neg (by decide)] at HC
    rw [show (!(decide (d = 0) && false && decide (k.s 3 >>> (n - 3072).toNat &&& 1#64 = 0#64)) && decide (q ≤ d)) = decide (q ≤ d) by simp]
    clear hc
    by_cases h0 : d = 0
    · have h0b : (d == 0) = true := by simp [h0]
      clear h0
      go_enter Try.func20, Try.ntmps20
      go_upto_region 4 with (go_at_call 32; refine (HC.out _).mono ?_; rintro e w1 ⟨rfl, hw1⟩; have hw2 := hw1.symm; subst hw2)
      refine wp_region_later (x0 := Later.start w) (by kernel_rfl) (by kernel_rfl) ?_
      repeat (go_big_quiet_step (first | (go_at_call 33; exact calls_later_same (HM.out _))))
      refine wpQuiet_nil ?_
      rintro w' ⟨x9, rfl⟩
      go_wp2
      go_ret
      exact ⟨rfl, x9.below⟩
    · have h0b : (d == 0) = false := by simp [h0]
      clear h0
      go_enter Try.func20, Try.ntmps20
      go_upto_region 4 with (go_at_call 32; refine (HC.out _).mono ?_; rintro e w1 ⟨rfl, hw1⟩; have hw2 := hw1.symm; subst hw2)
      refine wp_region_later (x0 := Later.start w) (by kernel_rfl) (by kernel_rfl) ?_
      repeat (go_big_quiet_step (first | (go_at_call 33; exact calls_later_same (HM.out _))))
      refine wpQuiet_nil ?_
      rintro w' ⟨x9, rfl⟩
      go_wp2
      go_ret
      exact ⟨rfl, x9.below⟩
  | true =>
    rw [hc, if_pos rfl] at HC
    have hin : 3072 ≤ n ∧ n ≤ 3103 := by simpa [cn, wi] using hc
    clear hc
    by_cases h0 : d = 0
    · have h0b : (d == 0) = true := by simp [h0]
      have hq1 : n64 (k.s 3) / 2 ^ (n - 3072).toNat = n64 (k.s 3 >>> (n - 3072).toNat) := n64_shr _ _
      have hq2 : bits .and .u64 (n64 (k.s 3 >>> (n - 3072).toNat)) 1 = n64 (k.s 3 >>> (n - 3072).toNat &&& 1#64) := n64_and _ 1#64
      by_cases hb : k.s 3 >>> (n - 3072).toNat &&& 1#64 = 0#64
      · rw [show (!(decide (d = 0) && true && decide (k.s 3 >>> (n - 3072).toNat &&& 1#64 = 0#64)) && decide (q ≤ d)) = false by simp [h0, hb]]
        have hq3 : (n64 (k.s 3 >>> (n - 3072).toNat &&& 1#64) == 0) = true := by rw [hb]; rfl
        clear hb
        generalize n64 (k.s 3 >>> (n - 3072).toNat &&& 1#64) = u1 at hq2 hq3
        generalize k.s 3 >>> (n - 3072).toNat = u2 at hq1 hq2
        clear h0
        go_enter Try.func20, Try.ntmps20
        go_wp2_with (go_at_call 32; refine (HC.out _).mono ?_; rintro e w1 ⟨rfl, hw1⟩; have hw2 := hw1.symm; subst hw2)
        go_ret
        exact ⟨rfl, Below.refl _ _⟩
      · rw [show (!(decide (d = 0) && true && decide (k.s 3 >>> (n - 3072).toNat &&& 1#64 = 0#64)) && decide (q ≤ d)) = decide (q ≤ d) by simp [hb]]
        have hq3 : (n64 (k.s 3 >>> (n - 3072).toNat &&& 1#64) == 0) = false := n64_ne hb
        clear hb
        generalize n64 (k.s 3 >>> (n - 3072).toNat &&& 1#64) = u1 at hq2 hq3
        generalize k.s 3 >>> (n - 3072).toNat = u2 at hq1 hq2
        clear h0
        go_enter Try.func20, Try.ntmps20
        go_upto_region 4 with (go_at_call 32; refine (HC.out _).mono ?_; rintro e w1 ⟨rfl, hw1⟩; have hw2 := hw1.symm; subst hw2)
        refine wp_region_later (x0 := Later.start w) (by kernel_rfl) (by kernel_rfl) ?_
        repeat (go_big_quiet_step (first | (go_at_call 33; exact calls_later_same (HM.out _))))
        refine wpQuiet_nil ?_
        rintro w' ⟨x9, rfl⟩
        go_wp2
        go_ret
        exact ⟨rfl, x9.below⟩
    · have h0b : (d == 0) = false := by simp [h0]
      rw [show (!(decide (d = 0) && true && decide (k.s 3 >>> (n - 3072).toNat &&& 1#64 = 0#64)) && decide (q ≤ d)) = decide (q ≤ d) by simp [h0]]
      clear h0
      go_enter Try.func20, Try.ntmps20
      go_upto_region 4 with (go_at_call 32; refine (HC.out _).mono ?_; rintro e w1 ⟨rfl, hw1⟩; have hw2 := hw1.symm; subst hw2)
      refine wp_region_later (x0 := Later.start w) (by kernel_rfl) (by kernel_rfl) ?_
      repeat (go_big_quiet_step (first | (go_at_call 33; exact calls_later_same (HM.out _))))
      refine wpQuiet_nil ?_
      rintro w' ⟨x9, rfl⟩
      go_wp2
      go_ret
      exact ⟨rfl, x9.below⟩
set_option maxRecDepth 100000 in
set_option maxHeartbeats 1000000 in
theorem mayWrite_c (g : Nat) (k : Cp) (m t : BitVec 64) (n : Int) (w : World) (h : Sr w g k m t) : Calls Try.prog 22 #[.pointer (some ⟨g, 0, none⟩), .int .i64 n] w fun e w' => e = .returned (.bool (mw k n)) ∧ Below w.heap.size w w' := by
  have HM : Hid (∀ W, Calls Try.prog 33 #[.int .i64 n] W fun e w' => e = .returned (.int .i64 (mo n)) ∧ w' = W) := modeOf_c n
  have HR : Hid (∀ W, Calls Try.prog 38 #[.int .i64 n] W fun e w' => e = .returned (.bool (ki n == 3)) ∧ w' = W) := isReadOnly_c n
  have := later_nonempty w
  have L33 : ∀ x : Later w, x.1.cell? ⟨g, 33, none⟩ = some (.int .i64 k.md) := later_at h.lt h.md
  unfold mw
  generalize mo n = q at HM ⊢
  generalize (ki n == 3) = r at HR ⊢
  generalize k.md = d at L33 ⊢
  clear h
  by_cases hq : q ≤ d
  · rw [show (decide (q ≤ d) && !r) = !r by simp [hq]]
    have hqd : decide (q ≤ d) = true := by simp [hq]
    clear hq
    go_enter Try.func22, Try.ntmps22
    go_upto_region 1 with fail
    refine wp_region_later (x0 := Later.start w) (by kernel_rfl) (by kernel_rfl) ?_
    repeat (go_big_quiet_step (first | (go_at_call 33; exact calls_later_same (HM.out _)) | (go_at_call 38; exact calls_later_same (HR.out _))))
    refine wpQuiet_nil ?_
    rintro w' ⟨x9, rfl⟩
    go_wp2
    go_ret
    exact ⟨rfl, x9.below⟩
  · rw [show (decide (q ≤ d) && !r) = false by simp [hq]]
    have hqd : decide (q ≤ d) = false := by simp [hq]
    clear hq
    go_enter Try.func22, Try.ntmps22
    go_upto_region 1 with fail
    refine wp_region_later (x0 := Later.start w) (by kernel_rfl) (by kernel_rfl) ?_
    repeat (go_big_quiet_step (first | (go_at_call 33; exact calls_later_same (HM.out _)) | (go_at_call 38; exact calls_later_same (HR.out _))))
    refine wpQuiet_nil ?_
    rintro w' ⟨x9, rfl⟩
    go_wp2
    go_ret
    exact ⟨rfl, x9.below⟩
end Go.Proofs.Ytnnkeodiacdmaab
