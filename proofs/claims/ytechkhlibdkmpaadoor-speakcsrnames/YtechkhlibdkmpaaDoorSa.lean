/-
  The registers' names: the program's table, the reference's variable, Reg of both.
-/
import Derived.Test.YtechkhlibdkmpaaDoorNum
namespace Go.Proofs.YtechkhlibdkmpaaDoor
set_option linter.unusedVariables false
open Go.ChangeShapes Go.WideShapes Go.ChangeAt Go.RowKit Go.Deep
def rgL : List (List UInt8) := [[122, 101, 114, 111], [114, 97], [115, 112], [103, 112], [116, 112], [116, 48], [116, 49], [116, 50], [115, 48], [115, 49], [97, 48], [97, 49], [97, 50], [97, 51], [97, 52], [97, 53], [97, 54], [97, 55], [115, 50], [115, 51], [115, 52], [115, 53], [115, 54], [115, 55], [115, 56], [115, 57], [115, 49, 48], [115, 49, 49], [116, 51], [116, 52], [116, 53], [116, 54]]
/-- The name of register n. -/
def rgS (n : Nat) : ByteArray := ⟨(rgL.getD n []).toArray⟩
def rgTab : Array Value := ((List.range 32).map fun n => Value.string (rgS n)).toArray
theorem rgSize : (Tryd.prog.info? 27).map (·.size) = some rgTab.size := by kernel_rfl
theorem rgOne : rgTab.all (·.oneCell') = true := by kernel_rfl
theorem rgTab_at (n : Nat) (h : n < 32) : rgTab[n]? = some (.string (rgS n)) := by
  unfold rgTab
  simp [h]
theorem registerNames_c (w : World) : Calls Tryd.prog 15 #[] w fun e w' => e = .returned (.agg rgTab) ∧ w' = w.alloc (.cells rgTab 27) := by
  go_enter Tryd.func15, Tryd.ntmps15
  go_wp2_with (first
    | (refine wpList_build_tab (by rfl) 27 _ (by rfl) rgTab (by kernel_rfl) ?_)
    | (refine wpList_store_new (by rfl) 27 _ _ (by rfl) (by rfl) _ rgTab (by rfl) (by rfl) rgSize (by rfl) rgOne ?_))
  exact bodyPost_ret (v := .agg rgTab) (results_cell_row Tryd.results15 _ _ w.heap.size 27 rgTab (0, 0) _ (by rfl) (heap_alloc_last w _) Tryd.underlying27 (by rfl) rgSize) rfl ⟨rfl, rfl⟩
/-- The reference's variable holds the names. -/
def Rg (w : World) : Prop := ∀ n, n < 32 → w.cell? ⟨0, n, none⟩ = some (.string (rgS n))
theorem Rg.lt {w : World} (h : Rg w) : 0 < w.heap.size := World.block_lt_of_cell? w _ (h 0 (by omega))
theorem Rg.later {w w' : World} {B : Nat} (h : Rg w) (b : Below B w w') (hB : 0 < B) : Rg w' := fun j hj => (b.cell (p := ⟨0, j, none⟩) hB).trans (h j hj)
theorem Rg.next {w w' : World} (h : Rg w) (b : Below w.heap.size w w') : Rg w' := h.later b h.lt
theorem rgIdx : ∀ (n : Nat) (h : n < 32) (w : World), (Instr.index 27 (.agg rgTab) (.int .i64 (n : Int))).run Tryd.prog w = .ok (.string (rgS n)) w
  | 0, _, w => by kernel_rfl
  | 1, _, w => by kernel_rfl
  | 2, _, w => by kernel_rfl
  | 3, _, w => by kernel_rfl
  | 4, _, w => by kernel_rfl
  | 5, _, w => by kernel_rfl
  | 6, _, w => by kernel_rfl
  | 7, _, w => by kernel_rfl
  | 8, _, w => by kernel_rfl
  | 9, _, w => by kernel_rfl
  | 10, _, w => by kernel_rfl
  | 11, _, w => by kernel_rfl
  | 12, _, w => by kernel_rfl
  | 13, _, w => by kernel_rfl
  | 14, _, w => by kernel_rfl
  | 15, _, w => by kernel_rfl
  | 16, _, w => by kernel_rfl
  | 17, _, w => by kernel_rfl
  | 18, _, w => by kernel_rfl
  | 19, _, w => by kernel_rfl
  | 20, _, w => by kernel_rfl
  | 21, _, w => by kernel_rfl
  | 22, _, w => by kernel_rfl
  | 23, _, w => by kernel_rfl
  | 24, _, w => by kernel_rfl
  | 25, _, w => by kernel_rfl
  | 26, _, w => by kernel_rfl
  | 27, _, w => by kernel_rfl
  | 28, _, w => by kernel_rfl
  | 29, _, w => by kernel_rfl
  | 30, _, w => by kernel_rfl
  | 31, _, w => by kernel_rfl
  | n + 32, h, _ => absurd h (by omega)
/-- What Reg gives. -/
def regS (n : Int) : ByteArray := if 0 ≤ n ∧ n ≤ 31 then rgS n.toNat else ⟨#[]⟩
theorem reg_c (n : Int) (w : World) : Calls Tryd.prog 7 #[.int .i64 n] w fun e w' => e = .returned (.string (regS n)) ∧ Below w.heap.size w w' := by
  by_cases h : 0 ≤ n ∧ n ≤ 31
  · have e : regS n = rgS n.toNat := if_pos h
    rw [e]
    obtain ⟨h0, h1⟩ := h
    obtain ⟨m, rfl⟩ := Int.eq_ofNat_of_zero_le h0
    rw [Int.toNat_natCast]
    have hm : m < 32 := by omega
    have hi := rgIdx m hm
    have hn1 : ¬ ((m : Int) < 0) := by omega
    have hn2 : ¬ ((32 : Int) ≤ m) := by omega
    have HW : Hid (∀ w : World, Calls Tryd.prog 15 #[] w fun e w' => e = .returned (.agg rgTab) ∧ Below w.heap.size w w') := fun w => (registerNames_c w).mono fun e w' ⟨a, b⟩ => ⟨a, by rw [b]; exact (Below.refl _ _).alloc (Nat.le_refl _) _⟩
    go_enter Tryd.func7, Tryd.ntmps7
    go_wp2_with (first | (go_at_call 15; refine (HW.out _).mono ?_; rintro e w1 ⟨rfl, hb⟩; have HB : Hid (Below w.heap.size w w1) := hb; clear hb))
    go_ret
    exact ⟨rfl, HB.out⟩
  · have e : regS n = ⟨#[]⟩ := if_neg h
    rw [e]
    have hn : n < 0 ∨ (¬ n < 0 ∧ 32 ≤ n) := by omega
    rcases hn with h1 | ⟨h1, h2⟩
    · go_enter Tryd.func7, Tryd.ntmps7
      go_wp2
      go_ret
      exact ⟨rfl, Below.refl _ _⟩
    · go_enter Tryd.func7, Tryd.ntmps7
      go_wp2
      go_ret
      exact ⟨rfl, Below.refl _ _⟩
theorem rreg_c (n : Int) (w : World) (hR : Rg w) : Calls Tryd.prog 8 #[.int .i64 n] w fun e w' => e = .returned (.string (regS n)) ∧ w' = w := by
  by_cases h : 0 ≤ n ∧ n ≤ 31
  · have e : regS n = rgS n.toNat := if_pos h
    rw [e]
    obtain ⟨h0, h1⟩ := h
    obtain ⟨m, rfl⟩ := Int.eq_ofNat_of_zero_le h0
    rw [Int.toNat_natCast]
    have hm : m < 32 := by omega
    have hc := hR m hm
    have hn1 : ¬ ((m : Int) < 0) := by omega
    have hn2 : ¬ ((31 : Int) < m) := by omega
    have hn3 : (m : Int) < 32 := by omega
    clear hR
    go_enter Tryd.func8, Tryd.ntmps8
    go_wp2
    go_ret
    exact ⟨rfl, rfl⟩
  · have e : regS n = ⟨#[]⟩ := if_neg h
    rw [e]
    clear hR
    have hn : n < 0 ∨ (¬ n < 0 ∧ 31 < n) := by omega
    rcases hn with h1 | ⟨h1, h2⟩
    · go_enter Tryd.func8, Tryd.ntmps8
      go_wp2
      go_ret
      exact ⟨rfl, rfl⟩
    · go_enter Tryd.func8, Tryd.ntmps8
      go_wp2
      go_ret
      exact ⟨rfl, rfl⟩
end Go.Proofs.YtechkhlibdkmpaaDoor
