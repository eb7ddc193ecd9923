/-
  Layer 17 (gdb): the reference's digits, sum, special.
-/
import Derived.Test.YtfenllkkbgkdnaaDoorGd
import Derived.Deep.RegionWith
namespace Go.Proofs.YtfenllkkbgkdnaaDoor
set_option linter.unusedVariables false
set_option maxRecDepth 100000
open Go.ChangeShapes Go.WideShapes Go.ChangeAt Go.RowKit Go.Deep
def hd (a : Nat) : UInt8 := if a < 10 then UInt8.ofNat (48 + a) else UInt8.ofNat (87 + a)
/-- One hex digit. -/
def dg (a : Nat) : ByteArray := ⟨#[hd a]⟩
def hxD : ByteArray := ⟨#[48, 49, 50, 51, 52, 53, 54, 55, 56, 57, 97, 98, 99, 100, 101, 102]⟩
theorem dg_ext : ∀ a : Nat, a < 16 → hxD.extract a (a + 1) = dg a
  | 0, _ => by rfl
  | 1, _ => by rfl
  | 2, _ => by rfl
  | 3, _ => by rfl
  | 4, _ => by rfl
  | 5, _ => by rfl
  | 6, _ => by rfl
  | 7, _ => by rfl
  | 8, _ => by rfl
  | 9, _ => by rfl
  | 10, _ => by rfl
  | 11, _ => by rfl
  | 12, _ => by rfl
  | 13, _ => by rfl
  | 14, _ => by rfl
  | 15, _ => by rfl
  | a + 16, h => absurd h (by omega)
theorem wrapU (z : Int) (h : 0 ≤ z ∧ z < 18446744073709551616) : IntKind.u64.wrap z = z := by
  have : IntKind.u64.wrap z = z % 18446744073709551616 := by first | rfl | (unfold IntKind.wrap; simp [IntKind.signed, IntKind.bits])
  rw [this]
  omega
theorem dg_two (a b : Nat) (ha : a < 16) (hb : b < 16) : dg a ++ dg b = strOfNums [hd1 a, hd1 b] := by
  have e : ∀ a : Nat, a < 16 → hd a = UInt8.ofNat (hd1 (a : Int)).toNat := fun a ha => by
    unfold hd hd1
    by_cases h : a < 10
    · rw [if_pos h, if_pos (by omega)]; congr 1
    · rw [if_neg h, if_neg (by omega)]; congr 1
  refine ByteArray.ext ?_
  rw [ByteArray.data_append]
  unfold strOfNums dg
  simp [e a ha, e b hb]
set_option maxHeartbeats 2000000 in
theorem rsum_c (l : List Int) (v : Value) (w : World) (hv : Byt w v l) (hall : AllB l) (hl : l.length ≤ 140737488355328) :
    Calls Tryd.prog 15 #[v] w fun e w' => e = .returned (.int .i64 (smN l)) ∧ w' = w := by
  obtain ⟨a, cap, rfl, hc, _, hr⟩ := hv
  have HR : Hid (l ≠ [] → ∃ g off, a = some ⟨g, off, none⟩ ∧ g < w.heap.size ∧ ∀ j, j < l.length → w.cell? ⟨g, off + j, none⟩ = some (.int .u8 (l.getD j 0))) := hr
  have HAL := Hid.mk' hall
  clear hr hall
  go_enter Tryd.func15, Tryd.ntmps15
  go_wp2
  go_loopw [3, 4] (fun x i wr => ∃ k : Nat, k ≤ l.length ∧ i = .int .i64 k ∧ x = .int .i64 (smN (l.take k)) ∧ wr = w) (fun _ i _ => l.length - (intOf i).toNat)
  case atStart => exact ⟨0, Nat.zero_le _, rfl, rfl, rfl⟩
  case round =>
    obtain ⟨k, hk, rfl, rfl, hwr⟩ := hrel
    subst hwr
    by_cases hlt : k < l.length
    · obtain ⟨gl, off, rfl, hgl, hcell⟩ := HR.out (by intro e; rw [e] at hlt; simp at hlt)
      have hlt2 : (k : Int) < (l.length : Int) := by omega
      have hce : wr.cell? ⟨gl, off + k, none⟩ = some (.int .u8 (l.getD k 0)) := hcell k hlt
      have HS : Hid (smN (l.take (k + 1)) = (smN (l.take k) + l.getD k 0) % 256) := smN_take hlt
      obtain ⟨sb0, sb1⟩ := smN_bd (l.take k)
      obtain ⟨cb0, cb1⟩ : 0 ≤ l.getD k 0 ∧ l.getD k 0 ≤ 255 := HAL.out _ (by rw [List.getD_eq_getElem?_getD, List.getElem?_eq_getElem hlt]; simp)
      generalize smN (l.take k) = s at *
      generalize l.getD k 0 = c at *
      have hm : Int.tmod (s + c) 256 = (s + c) % 256 := Int.tmod_eq_emod_of_nonneg (by omega)
      clear hcell HR
      go_wp2
      go_roundw
      case rel => exact ⟨k + 1, by omega, by go_num, by rw [HS.out], trivial⟩
      case measure => simp [intOf]; omega
    · have hkn : k = l.length := by omega
      have hz : ¬ (k : Int) < (l.length : Int) := by omega
      have HE : Hid (smN (l.take k) = smN l) := (by unfold Hid; rw [hkn, List.take_length])
      rw [HE.out]
      clear hkn hlt
      go_wp2
      go_ret
      exact ⟨rfl, rfl⟩
end Go.Proofs.YtfenllkkbgkdnaaDoor
