/-
  Numbers: Count of the program; digit and Number of the reference.
-/
import Derived.Test.YtechkhlibdkmpaaDoorSi
import Derived.Deep.CutRange
namespace Go.Proofs.YtechkhlibdkmpaaDoor
set_option linter.unusedVariables false
open Go.ChangeShapes Go.WideShapes Go.ChangeAt Go.RowKit Go.Deep Go.Shelf Go.Lib
/-- What Count answers. -/
def countV (l : List UInt8) : Value := if Lib.hasPrefix l [48, 120] then whV 16 (l.drop 2) else whV 10 l
theorem whV_form (B : Nat) (l : List UInt8) : ∃ (v : Nat) (b : Bool), whV B l = .tuple #[.int .u64 v, .bool b] := by
  unfold whV
  split
  · exact ⟨_, _, rfl⟩
  · exact ⟨0, _, rfl⟩
theorem count_c (s : ByteArray) (w : World) : Calls Tryd.prog 24 #[.string s] w fun e w' => e = .returned (countV s.toList) ∧ Below w.heap.size w w' := by
  have HC : Hid (∀ w : World, Calls Tryd.prog 28 #[.string s, .string ⟨#[48, 120]⟩] w fun e w' => e = .returned (.tuple #[.string ⟨(Lib.trimPrefix s.toList [48, 120]).toArray⟩, .bool (Lib.hasPrefix s.toList [48, 120])]) ∧ w' = w) := fun w => by
    rw [ByteArray.toList_eq]
    exact Any.strings_CutPrefix Tryd.laysCut s ⟨#[48, 120]⟩ w
  cases hp : Lib.hasPrefix s.toList [48, 120]
  · have e1 : countV s.toList = whV 10 s.toList := by unfold countV; rw [if_neg (by rw [hp]; simp)]
    obtain ⟨v, b, hv⟩ := whV_form 10 s.toList
    have HW : Hid (∀ w : World, Calls Tryd.prog 29 #[.string s, .int .u64 10] w fun e w' => e = .returned (.tuple #[.int .u64 v, .bool b]) ∧ Below w.heap.size w w') := fun w => hv ▸ whole_10 s w
    rw [e1, hv]
    rw [hp] at HC
    generalize (⟨(Lib.trimPrefix s.toList [48, 120]).toArray⟩ : ByteArray) = t at HC
    clear hp e1 hv
    go_enter Tryd.func24, Tryd.ntmps24
    go_wp2_with (first | (go_at_call 28; refine (HC.out _).mono ?_; rintro e w1 ⟨rfl, hw⟩; have hw2 := hw.symm; subst hw2) | (go_at_call 29; refine (HW.out _).mono ?_; rintro e w2 ⟨rfl, hb⟩; have HB : Hid (Below w.heap.size w w2) := hb; clear hb))
    go_ret2
    exact ⟨rfl, HB.out⟩
  · have e1 : countV s.toList = whV 16 (s.toList.drop 2) := by unfold countV; rw [if_pos hp]
    have et : (⟨(Lib.trimPrefix s.toList [48, 120]).toArray⟩ : ByteArray).toList = s.toList.drop 2 := by
      rw [ByteArray.toList_eq]
      unfold Lib.trimPrefix
      rw [if_pos hp]
      rfl
    rw [e1, ← et]
    rw [hp] at HC
    generalize (⟨(Lib.trimPrefix s.toList [48, 120]).toArray⟩ : ByteArray) = t at HC
    obtain ⟨v, b, hv⟩ := whV_form 16 t.toList
    have HW : Hid (∀ w : World, Calls Tryd.prog 29 #[.string t, .int .u64 16] w fun e w' => e = .returned (.tuple #[.int .u64 v, .bool b]) ∧ Below w.heap.size w w') := fun w => hv ▸ whole_16 t w
    rw [hv]
    clear hp e1 et hv
    go_enter Tryd.func24, Tryd.ntmps24
    go_wp2_with (first | (go_at_call 28; refine (HC.out _).mono ?_; rintro e w1 ⟨rfl, hw⟩; have hw2 := hw.symm; subst hw2) | (go_at_call 29; refine (HW.out _).mono ?_; rintro e w2 ⟨rfl, hb⟩; have HB : Hid (Below w.heap.size w w2) := hb; clear hb))
    go_ret2
    exact ⟨rfl, HB.out⟩
theorem sIdx (s : ByteArray) (i : Nat) (h : i < s.size) (k : IntKind) (w : World) : (Instr.index 9 (.string s) (.int k (i : Int))).run Tryd.prog w = .ok (.int .u8 ((s.get! i).toNat : Int)) w := by
  rw [run_index_string w 9 s k _ Tryd.underlying9, dif_pos ⟨by omega, by omega⟩]
  have hs : i < s.data.size := h
  have e : s.get! i = s.data[i] := by
    show s.data[i]! = _
    exact getElem!_pos s.data i hs
  rw [e]
  rfl
set_option maxRecDepth 100000 in
set_option maxHeartbeats 2000000 in
theorem rdigit_10 (r : Nat) (hr : r < 256) (w : World) : Calls Tryd.prog 30 #[.int .u8 r, .int .i64 10] w fun e w' => e = .returned (.int .i64 (if dgv r < 10 then (dgv r : Int) else -1)) ∧ w' = w := by
  obtain ⟨d, hd⟩ : ∃ d : Int, d = (if dgv r < 10 then (dgv r : Int) else -1) := ⟨_, rfl⟩
  rw [← hd]
  rcases (by omega : r < 48 ∨ (48 ≤ r ∧ r ≤ 57) ∨ (57 < r ∧ r < 65) ∨ (65 ≤ r ∧ r ≤ 70) ∨ (70 < r ∧ r < 97) ∨ (97 ≤ r ∧ r ≤ 102) ∨ 102 < r) with h | h | h | h | h | h | h
  · have p48 : ¬ ((48 : Int) ≤ r) := by omega
    have p97 : ¬ ((97 : Int) ≤ r) := by omega
    have p65 : ¬ ((65 : Int) ≤ r) := by omega
    have hm : dgv r = 16 := by unfold dgv; rw [if_neg (by omega), if_neg (by omega), if_neg (by omega)]
    rw [hm] at hd
    clear hm
    have HD2 : Hid (d = -1) := by unfold Hid; rw [hd, if_neg (by omega)]
    clear hd h
    go_enter Tryd.func30, Tryd.ntmps30
    go_wp2
    go_ret
    exact ⟨by rw [HD2.out]; rfl, rfl⟩
  · have p48 : (48 : Int) ≤ r := by omega
    have q48 : (r : Int) ≤ 57 := by omega
    have hm : dgv r = r - 48 := by unfold dgv; rw [if_pos (by omega)]
    rw [hm] at hd
    clear hm
    obtain ⟨e0, he0⟩ : ∃ e0 : Nat, e0 = r - 48 := ⟨_, rfl⟩
    have he1 : (r : Int) - 48 = (e0 : Int) := by omega
    have he2 : (e0 : Int) ≤ 9 := by omega
    have HD2 : Hid (d = (e0 : Int)) := by unfold Hid; rw [hd, if_pos (by omega)]; omega
    have t1 : ¬ ((10 : Int) ≤ e0) := by omega
    clear he0
    clear hd h
    go_enter Tryd.func30, Tryd.ntmps30
    go_wp2
    go_ret
    exact ⟨by rw [HD2.out]; rfl, rfl⟩
  · have p48 : (48 : Int) ≤ r := by omega
    have q48 : ¬ ((r : Int) ≤ 57) := by omega
    have p97 : ¬ ((97 : Int) ≤ r) := by omega
    have p65 : ¬ ((65 : Int) ≤ r) := by omega
    have hm : dgv r = 16 := by unfold dgv; rw [if_neg (by omega), if_neg (by omega), if_neg (by omega)]
    rw [hm] at hd
    clear hm
    have HD2 : Hid (d = -1) := by unfold Hid; rw [hd, if_neg (by omega)]
    clear hd h
    go_enter Tryd.func30, Tryd.ntmps30
    go_wp2
    go_ret
    exact ⟨by rw [HD2.out]; rfl, rfl⟩
  · have p48 : (48 : Int) ≤ r := by omega
    have q48 : ¬ ((r : Int) ≤ 57) := by omega
    have p97 : ¬ ((97 : Int) ≤ r) := by omega
    have p65 : (65 : Int) ≤ r := by omega
    have q65 : (r : Int) ≤ 70 := by omega
    have hm : dgv r = r - 55 := by unfold dgv; rw [if_neg (by omega), if_neg (by omega), if_pos (by omega)]
    rw [hm] at hd
    clear hm
    obtain ⟨e0, he0⟩ : ∃ e0 : Nat, e0 = r - 65 := ⟨_, rfl⟩
    have he1 : (r : Int) - 65 = (e0 : Int) := by omega
    have he2 : (e0 : Int) ≤ 5 := by omega
    have HD2 : Hid (d = -1) := by unfold Hid; rw [hd, if_neg (by omega)]
    have t1 : (10 : Int) ≤ (e0 : Int) + 10 := by omega
    clear he0
    clear hd h
    go_enter Tryd.func30, Tryd.ntmps30
    go_wp2
    go_ret
    exact ⟨by rw [HD2.out]; rfl, rfl⟩
  · have p48 : (48 : Int) ≤ r := by omega
    have q48 : ¬ ((r : Int) ≤ 57) := by omega
    have p97 : ¬ ((97 : Int) ≤ r) := by omega
    have p65 : (65 : Int) ≤ r := by omega
    have q65 : ¬ ((r : Int) ≤ 70) := by omega
    have hm : dgv r = 16 := by unfold dgv; rw [if_neg (by omega), if_neg (by omega), if_neg (by omega)]
    rw [hm] at hd
    clear hm
    have HD2 : Hid (d = -1) := by unfold Hid; rw [hd, if_neg (by omega)]
    clear hd h
    go_enter Tryd.func30, Tryd.ntmps30
    go_wp2
    go_ret
    exact ⟨by rw [HD2.out]; rfl, rfl⟩
  · have p48 : (48 : Int) ≤ r := by omega
    have q48 : ¬ ((r : Int) ≤ 57) := by omega
    have p97 : (97 : Int) ≤ r := by omega
    have q97 : (r : Int) ≤ 102 := by omega
    have hm : dgv r = r - 87 := by unfold dgv; rw [if_neg (by omega), if_pos (by omega)]
    rw [hm] at hd
    clear hm
    obtain ⟨e0, he0⟩ : ∃ e0 : Nat, e0 = r - 97 := ⟨_, rfl⟩
    have he1 : (r : Int) - 97 = (e0 : Int) := by omega
    have he2 : (e0 : Int) ≤ 5 := by omega
    have HD2 : Hid (d = -1) := by unfold Hid; rw [hd, if_neg (by omega)]
    have t1 : (10 : Int) ≤ (e0 : Int) + 10 := by omega
    clear he0
    clear hd h
    go_enter Tryd.func30, Tryd.ntmps30
    go_wp2
    go_ret
    exact ⟨by rw [HD2.out]; rfl, rfl⟩
  · have p48 : (48 : Int) ≤ r := by omega
    have q48 : ¬ ((r : Int) ≤ 57) := by omega
    have p97 : (97 : Int) ≤ r := by omega
    have q97 : ¬ ((r : Int) ≤ 102) := by omega
    have p65 : (65 : Int) ≤ r := by omega
    have q65 : ¬ ((r : Int) ≤ 70) := by omega
    have hm : dgv r = 16 := by unfold dgv; rw [if_neg (by omega), if_neg (by omega), if_neg (by omega)]
    rw [hm] at hd
    clear hm
    have HD2 : Hid (d = -1) := by unfold Hid; rw [hd, if_neg (by omega)]
    clear hd h
    go_enter Tryd.func30, Tryd.ntmps30
    go_wp2
    go_ret
    exact ⟨by rw [HD2.out]; rfl, rfl⟩
set_option maxRecDepth 100000 in
set_option maxHeartbeats 2000000 in
theorem rdigit_16 (r : Nat) (hr : r < 256) (w : World) : Calls Tryd.prog 30 #[.int .u8 r, .int .i64 16] w fun e w' => e = .returned (.int .i64 (if dgv r < 16 then (dgv r : Int) else -1)) ∧ w' = w := by
  obtain ⟨d, hd⟩ : ∃ d : Int, d = (if dgv r < 16 then (dgv r : Int) else -1) := ⟨_, rfl⟩
  rw [← hd]
  rcases (by omega : r < 48 ∨ (48 ≤ r ∧ r ≤ 57) ∨ (57 < r ∧ r < 65) ∨ (65 ≤ r ∧ r ≤ 70) ∨ (70 < r ∧ r < 97) ∨ (97 ≤ r ∧ r ≤ 102) ∨ 102 < r) with h | h | h | h | h | h | h
  · have p48 : ¬ ((48 : Int) ≤ r) := by omega
    have p97 : ¬ ((97 : Int) ≤ r) := by omega
    have p65 : ¬ ((65 : Int) ≤ r) := by omega
    have hm : dgv r = 16 := by unfold dgv; rw [if_neg (by omega), if_neg (by omega), if_neg (by omega)]
    rw [hm] at hd
    clear hm
    have HD2 : Hid (d = -1) := by unfold Hid; rw [hd, if_neg (by omega)]
    clear hd h
    go_enter Tryd.func30, Tryd.ntmps30
    go_wp2
    go_ret
    exact ⟨by rw [HD2.out]; rfl, rfl⟩
  · have p48 : (48 : Int) ≤ r := by omega
    have q48 : (r : Int) ≤ 57 := by omega
    have hm : dgv r = r - 48 := by unfold dgv; rw [if_pos (by omega)]
    rw [hm] at hd
    clear hm
    obtain ⟨e0, he0⟩ : ∃ e0 : Nat, e0 = r - 48 := ⟨_, rfl⟩
    have he1 : (r : Int) - 48 = (e0 : Int) := by omega
    have he2 : (e0 : Int) ≤ 9 := by omega
    have HD2 : Hid (d = (e0 : Int)) := by unfold Hid; rw [hd, if_pos (by omega)]; omega
    have t1 : ¬ ((16 : Int) ≤ e0) := by omega
    clear he0
    clear hd h
    go_enter Tryd.func30, Tryd.ntmps30
    go_wp2
    go_ret
    exact ⟨by rw [HD2.out]; rfl, rfl⟩
  · have p48 : (48 : Int) ≤ r := by omega
    have q48 : ¬ ((r : Int) ≤ 57) := by omega
    have p97 : ¬ ((97 : Int) ≤ r) := by omega
    have p65 : ¬ ((65 : Int) ≤ r) := by omega
    have hm : dgv r = 16 := by unfold dgv; rw [if_neg (by omega), if_neg (by omega), if_neg (by omega)]
    rw [hm] at hd
    clear hm
    have HD2 : Hid (d = -1) := by unfold Hid; rw [hd, if_neg (by omega)]
    clear hd h
    go_enter Tryd.func30, Tryd.ntmps30
    go_wp2
    go_ret
    exact ⟨by rw [HD2.out]; rfl, rfl⟩
  · have p48 : (48 : Int) ≤ r := by omega
    have q48 : ¬ ((r : Int) ≤ 57) := by omega
    have p97 : ¬ ((97 : Int) ≤ r) := by omega
    have p65 : (65 : Int) ≤ r := by omega
    have q65 : (r : Int) ≤ 70 := by omega
    have hm : dgv r = r - 55 := by unfold dgv; rw [if_neg (by omega), if_neg (by omega), if_pos (by omega)]
    rw [hm] at hd
    clear hm
    obtain ⟨e0, he0⟩ : ∃ e0 : Nat, e0 = r - 65 := ⟨_, rfl⟩
    have he1 : (r : Int) - 65 = (e0 : Int) := by omega
    have he2 : (e0 : Int) ≤ 5 := by omega
    have HD2 : Hid (d = (e0 : Int) + 10) := by unfold Hid; rw [hd, if_pos (by omega)]; omega
    have t1 : ¬ ((16 : Int) ≤ (e0 : Int) + 10) := by omega
    clear he0
    clear hd h
    go_enter Tryd.func30, Tryd.ntmps30
    go_wp2
    go_ret
    exact ⟨by rw [HD2.out]; rfl, rfl⟩
  · have p48 : (48 : Int) ≤ r := by omega
    have q48 : ¬ ((r : Int) ≤ 57) := by omega
    have p97 : ¬ ((97 : Int) ≤ r) := by omega
    have p65 : (65 : Int) ≤ r := by omega
    have q65 : ¬ ((r : Int) ≤ 70) := by omega
    have hm : dgv r = 16 := by unfold dgv; rw [if_neg (by omega), if_neg (by omega), if_neg (by omega)]
    rw [hm] at hd
    clear hm
    have HD2 : Hid (d = -1) := by unfold Hid; rw [hd, if_neg (by omega)]
    clear hd h
    go_enter Tryd.func30, Tryd.ntmps30
    go_wp2
    go_ret
    exact ⟨by rw [HD2.out]; rfl, rfl⟩
  · have p48 : (48 : Int) ≤ r := by omega
    have q48 : ¬ ((r : Int) ≤ 57) := by omega
    have p97 : (97 : Int) ≤ r := by omega
    have q97 : (r : Int) ≤ 102 := by omega
    have hm : dgv r = r - 87 := by unfold dgv; rw [if_neg (by omega), if_pos (by omega)]
    rw [hm] at hd
    clear hm
    obtain ⟨e0, he0⟩ : ∃ e0 : Nat, e0 = r - 97 := ⟨_, rfl⟩
    have he1 : (r : Int) - 97 = (e0 : Int) := by omega
    have he2 : (e0 : Int) ≤ 5 := by omega
    have HD2 : Hid (d = (e0 : Int) + 10) := by unfold Hid; rw [hd, if_pos (by omega)]; omega
    have t1 : ¬ ((16 : Int) ≤ (e0 : Int) + 10) := by omega
    clear he0
    clear hd h
    go_enter Tryd.func30, Tryd.ntmps30
    go_wp2
    go_ret
    exact ⟨by rw [HD2.out]; rfl, rfl⟩
  · have p48 : (48 : Int) ≤ r := by omega
    have q48 : ¬ ((r : Int) ≤ 57) := by omega
    have p97 : (97 : Int) ≤ r := by omega
    have q97 : ¬ ((r : Int) ≤ 102) := by omega
    have p65 : (65 : Int) ≤ r := by omega
    have q65 : ¬ ((r : Int) ≤ 70) := by omega
    have hm : dgv r = 16 := by unfold dgv; rw [if_neg (by omega), if_neg (by omega), if_neg (by omega)]
    rw [hm] at hd
    clear hm
    have HD2 : Hid (d = -1) := by unfold Hid; rw [hd, if_neg (by omega)]
    clear hd h
    go_enter Tryd.func30, Tryd.ntmps30
    go_wp2
    go_ret
    exact ⟨by rw [HD2.out]; rfl, rfl⟩
end Go.Proofs.YtechkhlibdkmpaaDoor
