/-
  New of both.
-/
import Derived.Test.YthgjgphgpdkngaaBsn
namespace Go.Proofs.Ythgjgphgpdkngaa
set_option linter.unusedVariables false
open Go.ChangeShapes Go.WideShapes Go.ChangeAt Go.RowKit Go.Deep
/-- The state of a new bus. -/
def St.zero (n : Nat) : St := ⟨List.replicate n 0, 0, 18446744073709551615, 0, false, false, 0, 0, 0, 0, false, [], [], 0, 0⟩
theorem St.zero_ok {n : Nat} (h : ramOk n = true) : (St.zero n).ok = true := by
  simp [St.ok, St.zero, h, powOk]
def ramOkZ (z : Int) : Bool := decide (8 ≤ z) && decide (z ≤ 65536) && (z % 8 == 0)
theorem ramOkZ_nat (n : Nat) : ramOkZ n = ramOk n := rfl
theorem isRamSize_z (z : Int) (w : World) : Calls Try.prog 27 #[.int .i64 z] w fun e w' => e = .returned (.bool (ramOkZ z)) ∧ w' = w := by
  rcases Int.lt_or_le z 0 with h | h
  · have h1 : z < 8 := by omega
    have HX : Hid (ramOkZ z = false) := by unfold Hid ramOkZ; simp; omega
    generalize ramOkZ z = b at HX ⊢
    go_enter Try.func27, Try.ntmps27
    go_wp2
    go_ret
    exact ⟨by cases HX.out; rfl, rfl⟩
  · have := isRamSize_c z.toNat w
    rw [← ramOkZ_nat, Int.toNat_of_nonneg h] at this
    exact this
theorem new_bad (z : Int) (w : World) (h : ramOkZ z = false) : Calls Try.prog 9 #[.int .i64 z] w fun e w' => e = .returned (.tuple #[.pointer none, .int .i64 1]) ∧ Below w.heap.size w w' := by
  have hC := isRamSize_z z
  rw [h] at hC
  go_enter Try.func9, Try.ntmps9
  go_wp2_with (go_at_call 27; refine (hC _).mono ?_; rintro e w1 ⟨rfl, rfl⟩)
  go_ret2
  exact ⟨rfl, Below.refl _ _⟩
set_option maxRecDepth 100000 in
set_option maxHeartbeats 2000000 in
theorem new_c (n : Nat) (w : World) (h : ramOk n = true) : Calls Try.prog 9 #[.int .i64 n] w fun e w' => ∃ L, e = .returned (.tuple #[.pointer (some ⟨L.b, 0, none⟩), .int .i64 0]) ∧ PB w.heap.size L (St.zero n) w' ∧ Below w.heap.size w w' := by
  have hC := isRamSize_c n
  rw [h] at hC
  have hn : n ≤ 65536 := by simp [ramOk] at h; omega
  obtain ⟨i0, hi, hz0, hz1, hz2⟩ := info_parts info5
  have HI : Hid (Try.prog.info? 5 = some i0) := hi
  have HZ0 : Hid (i0.zero = some (.int .u8 0)) := hz0
  have HZ1 : Hid (i0.size = 1) := hz1
  have HZ2 : Hid (i0.bytes = 1) := hz2
  clear hi hz0 hz1 hz2
  have HF : Hid (∀ w1, Byt w1 (.slice (some ⟨w.heap.size, 0, none⟩) n n) (List.replicate n 0) → Calls Try.prog 28 #[.agg #[.slice (some ⟨w.heap.size, 0, none⟩) n n, .int .u32 0, .int .u64 18446744073709551615, .int .u64 0, .bool false, .bool false, .int .u8 0, .int .u8 0, .int .u8 0, .int .u8 0, .bool false, .slice none 0 0, .slice none 0 0, .int .i64 0, .int .i64 0]] w1
      fun e w' => ∃ L, e = .returned (.tuple #[pt L.b, .int .i64 0]) ∧ PB w1.heap.size L (St.zero n) w' ∧ Below w1.heap.size w1 w') := fun w1 hb => by
    have := from_c (St.zero n) (some ⟨w.heap.size, 0, none⟩) none none n 0 0 w1 (St.zero_ok h) (by simpa [St.zero] using hb) (Byt.nil w1) (Byt.nil w1) (by simp [St.zero]; omega) (by simp [St.zero]) (by simp [St.zero])
    simpa [stc, St.zero] using this
  go_enter Try.func9, Try.ntmps9
  go_wp2_with (first | (go_at_call 27; refine (hC _).mono ?_; rintro e w1 ⟨rfl, hw⟩; have hw2 := hw.symm; subst hw2) | (at_make; refine wpList_make_full _ (by rfl) _ _ 22 (by rfl) w.heap.size 5 i0 (.int .u8 0) 1 Try.underlying22 HI.out HZ0.out HZ1.out _ _ _ _ n (by rfl) (by rfl) (by omega) (by omega) (by rw [HZ2.out]; omega) (by unfold maxLen; omega) (Nat.le_refl _) ?_; intro w1 hown hgrow; rw [show (Value.int .u8 0).cells = #[Value.int .u8 0] from rfl, made_bv] at hown; have HO : Hid _ := hown; have HB : Hid (Below w.heap.size w w1) := (Below.refl _ _).grown hgrow (Nat.le_refl _) (fun k hk => by cases hk); clear hown hgrow) | (go_at_call 28; refine (HF.out _ (Byt.of_own HO.out)).mono ?_; rintro e w2 ⟨L, rfl, hpb, hb2⟩; simp only [pt]; have HP : Hid _ := hpb; have HB2 : Hid _ := hb2; clear hpb hb2))
  go_ret2
  exact ⟨L, rfl, HP.out.le HB.out.size, HB.out.trans (HB2.out.mono HB.out.size)⟩
theorem rnew_bad (z : Int) (w : World) (h : ramOkZ z = false) : Calls Try.prog 10 #[.int .i64 z] w fun e w' => e = .returned (.tuple #[.pointer none, .int .i64 1]) ∧ Below w.heap.size w w' := by
  rcases Int.lt_or_le z 8 with h1 | h1
  · go_enter Try.func10, Try.ntmps10
    go_wp2
    go_ret2
    exact ⟨rfl, Below.refl _ _⟩
  · rcases Int.lt_or_le 65536 z with h2 | h2
    · go_enter Try.func10, Try.ntmps10
      go_wp2
      go_ret2
      exact ⟨rfl, Below.refl _ _⟩
    · have hm : z.tmod 8 = z % 8 := Int.tmod_eq_emod_of_nonneg (by omega)
      have h3 : (z % 8 != 0) = true := by simp [ramOkZ] at h ⊢; omega
      clear h
      go_enter Try.func10, Try.ntmps10
      go_wp2
      go_ret2
      exact ⟨rfl, Below.refl _ _⟩
set_option maxRecDepth 100000 in
set_option maxHeartbeats 2000000 in
theorem rnew_c (n : Nat) (w : World) (h : ramOk n = true) : Calls Try.prog 10 #[.int .i64 n] w fun e w' => ∃ c ur ui uo, e = .returned (.tuple #[.pointer (some ⟨c, 0, none⟩), .int .i64 0]) ∧ RB w.heap.size c (St.zero n) ur ui uo w' ∧ Below w.heap.size w w' := by
  have h1 : 8 ≤ (n : Int) := by simp [ramOk] at h; omega
  have h2 : (n : Int) ≤ 65536 := by simp [ramOk] at h; omega
  have hm : (n : Int).tmod 8 = (n : Int) % 8 := Int.tmod_eq_emod_of_nonneg (by omega)
  have h3 : ((n : Int) % 8 != 0) = false := by simp [ramOk] at h ⊢; omega
  obtain ⟨i0, hi, hz0, hz1, hz2⟩ := info_parts info5
  have HI : Hid (Try.prog.info? 5 = some i0) := hi
  have HZ0 : Hid (i0.zero = some (.int .u8 0)) := hz0
  have HZ1 : Hid (i0.size = 1) := hz1
  have HZ2 : Hid (i0.bytes = 1) := hz2
  clear hi hz0 hz1 hz2 h
  go_enter Try.func10, Try.ntmps10
  go_wp2_with (at_make; refine wpList_make_full _ (by rfl) _ _ 22 (by rfl) w.heap.size 5 i0 (.int .u8 0) 1 Try.underlying22 HI.out HZ0.out HZ1.out _ _ _ _ n (by rfl) (by rfl) (by omega) (by omega) (by rw [HZ2.out]; omega) (by unfold maxLen; omega) (Nat.le_refl _) ?_; intro w1 hown hgrow; rw [show (Value.int .u8 0).cells = #[Value.int .u8 0] from rfl, made_bv] at hown; have HO : Hid _ := hown; have HB : Hid (Below w.heap.size w w1) := (Below.refl _ _).grown hgrow (Nat.le_refl _) (fun k hk => by cases hk); clear hown hgrow)
  go_ret2
  refine ⟨w1.heap.size, .slice (some ⟨w.heap.size, 0, none⟩) n n, .slice none 0 0, .slice none 0 0, rfl, ⟨alloc_at w1 _, ⟨?_, World.ownsRow_nil _ _ _ _, World.ownsRow_nil _ _ _ _, fun g hg => ?_, fun g hg => ?_, fun g hg => ?_⟩, HB.out.size⟩, HB.out.alloc HB.out.size _⟩
  · have := World.ownsRow.alloc (w := w1) (base := w.heap.size) (e := 5) (size := 1) (v := .slice (some ⟨w.heap.size, 0, none⟩) n n) (n := n) (xs := bv (List.replicate n 0)) HO.out (.cells (stc (St.zero n) (.slice (some ⟨w.heap.size, 0, none⟩) n n) (.slice none 0 0) (.slice none 0 0)) 64)
    simpa [St.zero, stc] using this
  · intro e; cases e
  · intro e; cases e
  · cases hg
end Go.Proofs.Ythgjgphgpdkngaa
