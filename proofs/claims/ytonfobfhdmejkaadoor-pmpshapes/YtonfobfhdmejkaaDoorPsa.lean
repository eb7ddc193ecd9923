/-
  Trailing zeros; a range of a power of two.
-/
import Derived.Test.YtonfobfhdmejkaaDoorPbm
import Derived.Lib.TrailingZeros
namespace Go.Proofs.YtonfobfhdmejkaaDoor
set_option linter.unusedVariables false
open Go.ChangeShapes Go.WideShapes Go.ChangeAt Go.RowKit Go.Deep
/-- The library's table in its variable. -/
def Tb (w : World) : Prop := ∀ j, j < 64 → w.cell? ⟨0, j, none⟩ = some (.int .u8 ((Lib.deBruijn64tab.getD j 0 : Nat) : Int))
theorem Tb.lt {w : World} (h : Tb w) : 0 < w.heap.size := World.block_lt_of_cell? w _ (h 0 (by omega))
theorem Tb.later {w w' : World} {B : Nat} (h : Tb w) (b : Below B w w') (hB : 0 < B) : Tb w' := fun j hj => (b.cell (p := ⟨0, j, none⟩) hB).trans (h j hj)
theorem Tb.next {w w' : World} (h : Tb w) (b : Below w.heap.size w w') : Tb w' := h.later b h.lt
theorem Tb.alloc {w : World} (h : Tb w) (o : Obj) : Tb (w.alloc o) := h.next ((Below.refl _ _).alloc (Nat.le_refl _) _)
/-- The number of trailing zeros of a word. -/
def tz (x : BitVec 64) : Nat := Lib.ctz 64 x.toNat
theorem tz_zero : tz 0#64 = 64 := rfl
theorem n64_neg (x : BitVec 64) : IntKind.u64.wrap (-(n64 x)) = n64 (-x) := by
  rw [wrap_n64]
  congr 1
  apply BitVec.eq_of_toNat_eq
  rw [BitVec.toNat_ofInt, BitVec.toNat_neg]
  unfold n64
  have := x.isLt
  omega
theorem tz_key (x : BitVec 64) (h : x ≠ 0#64) : (((x &&& -x) * 285870213051353865#64) >>> 58).toNat = 2 ^ tz x * 285870213051353865 % 18446744073709551616 / 288230376151711744 ∧ tz x < 64 := by
  have h0 : x.toNat ≠ 0 := fun e => h (BitVec.eq_of_toNat_eq (by simpa using e))
  obtain ⟨hl, hk⟩ := Lib.lowest_bit 64 x.toNat h0 x.isLt
  refine ⟨?_, hk⟩
  have e1 : (x &&& -x).toNat = 2 ^ tz x := by
    rw [BitVec.toNat_and, BitVec.toNat_neg, Nat.mod_eq_of_lt (by have := x.isLt; omega)]
    exact hl
  rw [BitVec.toNat_ushiftRight, BitVec.toNat_mul, e1, Nat.shiftRight_eq_div_pow]
  rfl
theorem tz_c (x : BitVec 64) (w : World) (hT : Tb w) : Calls Tryd.prog 29 #[.int .u64 (n64 x)] w fun e w' => e = .returned (.int .i64 (tz x : Nat)) ∧ w' = w := by
  by_cases h : x = 0#64
  · subst h
    rw [tz_zero]
    have e0 : n64 0#64 = 0 := rfl
    rw [e0]
    go_enter Tryd.func29, Tryd.ntmps29
    go_wp2
    go_ret
    exact ⟨rfl, rfl⟩
  · obtain ⟨hk, h64⟩ := tz_key x h
    obtain ⟨hi, htab⟩ := Lib.deBruijn64_at _ h64
    have e0 : (n64 x == 0) = false := by
      have : ¬ n64 x = 0 := fun e => h (n64_zero e)
      simpa using this
    have e1 := n64_neg x
    have e2 := n64_and x (-x)
    have e3 : IntKind.u64.wrap (n64 (x &&& -x) * 285870213051353865) = n64 ((x &&& -x) * 285870213051353865#64) := n64_mul (x &&& -x) 285870213051353865#64
    obtain ⟨d, hd⟩ : ∃ d, d = (((x &&& -x) * 285870213051353865#64) >>> 58).toNat := ⟨_, rfl⟩
    have e4 : n64 ((x &&& -x) * 285870213051353865#64) / 288230376151711744 = (d : Int) := by
      have := n64_shr ((x &&& -x) * 285870213051353865#64) 58
      rw [hd]
      exact this
    rw [← hk, ← hd] at hi htab
    have hd64 : (d : Int) < 64 := by omega
    have c0 := hT d hi
    rw [htab] at c0
    have hw : wrap64 ((tz x : Nat) : Int) = ((tz x : Nat) : Int) := by unfold wrap64; omega
    generalize (x &&& -x) * 285870213051353865#64 = y3 at e3 e4
    generalize x &&& -x = y2 at e2 e3
    generalize -x = y1 at e1 e2
    generalize ((tz x : Nat) : Int) = t at c0 hw ⊢
    clear hk hd htab hT h
    go_enter Tryd.func29, Tryd.ntmps29
    go_wp2
    go_ret
    exact ⟨by simp_all, rfl⟩
end Go.Proofs.YtonfobfhdmejkaaDoor
