/-
  Csr of the reference, and that both answer the same.
-/
import Derived.Test.YtechkhlibdkmpaaDoorSg
import Derived.OwnWalk
namespace Go.Proofs.YtechkhlibdkmpaaDoor
set_option linter.unusedVariables false
open Go.ChangeShapes Go.WideShapes Go.ChangeAt Go.RowKit Go.Deep Go.Shelf
def nrT : List (Nat × List UInt8) := [(3857, [109, 118, 101, 110, 100, 111, 114, 105, 100]), (3858, [109, 97, 114, 99, 104, 105, 100]), (3859, [109, 105, 109, 112, 105, 100]), (3860, [109, 104, 97, 114, 116, 105, 100]), (3861, [109, 99, 111, 110, 102, 105, 103, 112, 116, 114]), (768, [109, 115, 116, 97, 116, 117, 115]), (769, [109, 105, 115, 97]), (772, [109, 105, 101]), (773, [109, 116, 118, 101, 99]), (774, [109, 99, 111, 117, 110, 116, 101, 114, 101, 110]), (778, [109, 101, 110, 118, 99, 102, 103]), (800, [109, 99, 111, 117, 110, 116, 105, 110, 104, 105, 98, 105, 116]), (832, [109, 115, 99, 114, 97, 116, 99, 104]), (833, [109, 101, 112, 99]), (834, [109, 99, 97, 117, 115, 101]), (835, [109, 116, 118, 97, 108]), (836, [109, 105, 112]), (928, [112, 109, 112, 99, 102, 103, 48]), (930, [112, 109, 112, 99, 102, 103, 50]), (2816, [109, 99, 121, 99, 108, 101]), (2818, [109, 105, 110, 115, 116, 114, 101, 116]), (3072, [99, 121, 99, 108, 101]), (3073, [116, 105, 109, 101]), (3074, [105, 110, 115, 116, 114, 101, 116])]
def nmR (n : Nat) : Option (List UInt8) := (nrT.find? fun c => c.1 == n).map (·.2)
def ctR (n : Nat) : Option (List UInt8 × Nat) := if decide (803 ≤ n) && decide (n ≤ 831) then some ([109, 104, 112, 109, 101, 118, 101, 110, 116], n - 800) else if decide (944 ≤ n) && decide (n ≤ 959) then some ([112, 109, 112, 97, 100, 100, 114], n - 944) else if decide (2819 ≤ n) && decide (n ≤ 2847) then some ([109, 104, 112, 109, 99, 111, 117, 110, 116, 101, 114], n - 2816) else if decide (3075 ≤ n) && decide (n ≤ 3103) then some ([104, 112, 109, 99, 111, 117, 110, 116, 101, 114], n - 3072) else none
def agree (n : Nat) : Bool := nmP n == nmR n && ctP n == ctR n
set_option maxRecDepth 1000000 in
theorem agree_all : ((List.range 4096).all agree) = true := by decide +kernel
theorem agree_at (n : Nat) (h : n < 4096) : nmP n = nmR n ∧ ctP n = ctR n := by
  have := List.all_eq_true.1 agree_all n (by simpa using h)
  unfold agree at this
  simpa using this
/-- The reference's variables hold its tables. -/
def Nr (w : World) : Prop := ∀ k, k < 24 → w.cell? ⟨1, k, none⟩ = some (.int .i64 (nrT.getD k (0, [])).1) ∧ w.cell? ⟨2, k, none⟩ = some (.string (bs (nrT.getD k (0, [])).2))
theorem Nr.lt {w : World} (h : Nr w) : 1 < w.heap.size ∧ 2 < w.heap.size := ⟨World.block_lt_of_cell? w _ (h 0 (by omega)).1, World.block_lt_of_cell? w _ (h 0 (by omega)).2⟩
theorem Nr.next {w w' : World} (h : Nr w) (b : Below w.heap.size w w') : Nr w' := fun k hk => ⟨(b.cell (p := ⟨1, k, none⟩) h.lt.1).trans (h k hk).1, (b.cell (p := ⟨2, k, none⟩) h.lt.2).trans (h k hk).2⟩
def ctV (n : Nat) : Value := match ctR n with | some (l, k) => .tuple #[.string (bs l), .int .i64 k, .bool true] | none => .tuple #[.string ⟨#[]⟩, .int .i64 0, .bool false]
set_option maxRecDepth 100000 in
set_option maxHeartbeats 2000000 in
theorem counted_c (n : Nat) (hn : n < 4096) (w : World) : Calls Tryd.prog 22 #[.int .i64 n] w fun e w' => e = .returned (ctV n) ∧ w' = w := by
  obtain ⟨v, hv⟩ : ∃ v, v = ctV n := ⟨_, rfl⟩
  rw [← hv]
  unfold ctV ctR at hv
  rcases (by omega : (0 ≤ n ∧ n ≤ 802) ∨ (803 ≤ n ∧ n ≤ 831) ∨ (832 ≤ n ∧ n ≤ 943) ∨ (944 ≤ n ∧ n ≤ 959) ∨ (960 ≤ n ∧ n ≤ 2818) ∨ (2819 ≤ n ∧ n ≤ 2847) ∨ (2848 ≤ n ∧ n ≤ 3074) ∨ (3075 ≤ n ∧ n ≤ 3103) ∨ (3104 ≤ n ∧ n ≤ 4095)) with ⟨u, t⟩ | ⟨u, t⟩ | ⟨u, t⟩ | ⟨u, t⟩ | ⟨u, t⟩ | ⟨u, t⟩ | ⟨u, t⟩ | ⟨u, t⟩ | ⟨u, t⟩
  · have q0 : ¬ ((decide (803 ≤ n) && decide (n ≤ 831)) = true) := by simp; omega
    have i0 : ¬ ((803 : Int) ≤ n) := by omega
    have q1 : ¬ ((decide (944 ≤ n) && decide (n ≤ 959)) = true) := by simp; omega
    have i1 : ¬ ((944 : Int) ≤ n) := by omega
    have q2 : ¬ ((decide (2819 ≤ n) && decide (n ≤ 2847)) = true) := by simp; omega
    have i2 : ¬ ((2819 : Int) ≤ n) := by omega
    have q3 : ¬ ((decide (3075 ≤ n) && decide (n ≤ 3103)) = true) := by simp; omega
    have i3 : ¬ ((3075 : Int) ≤ n) := by omega
    have HV : Hid (v = .tuple #[.string ⟨#[]⟩, .int .i64 0, .bool false]) := by unfold Hid; rw [hv, if_neg q0, if_neg q1, if_neg q2, if_neg q3]
    clear hv u t q0 q1 q2 q3
    go_enter Tryd.func22, Tryd.ntmps22
    go_wp2
    go_ret3
    exact ⟨by rw [HV.out]; rfl, rfl⟩
  · have q0 : (decide (803 ≤ n) && decide (n ≤ 831)) = true := by simp; omega
    have i0 : (803 : Int) ≤ n := by omega
    have k0 : (n : Int) ≤ 831 := by omega
    have HV : Hid (v = .tuple #[.string (bs [109, 104, 112, 109, 101, 118, 101, 110, 116]), .int .i64 ((n - 800 : Nat) : Int), .bool true]) := by unfold Hid; rw [hv, if_pos q0]
    obtain ⟨m, hm⟩ : ∃ m : Nat, m = n - 800 := ⟨_, rfl⟩
    have i9 : (n : Int) - 800 = (m : Int) := by omega
    rw [← hm] at HV
    clear hm
    clear hv u t q0
    go_enter Tryd.func22, Tryd.ntmps22
    go_wp2
    go_ret3
    exact ⟨by rw [HV.out]; rfl, rfl⟩
  · have q0 : ¬ ((decide (803 ≤ n) && decide (n ≤ 831)) = true) := by simp; omega
    have i0 : (803 : Int) ≤ n := by omega
    have k0 : ¬ ((n : Int) ≤ 831) := by omega
    have q1 : ¬ ((decide (944 ≤ n) && decide (n ≤ 959)) = true) := by simp; omega
    have i1 : ¬ ((944 : Int) ≤ n) := by omega
    have q2 : ¬ ((decide (2819 ≤ n) && decide (n ≤ 2847)) = true) := by simp; omega
    have i2 : ¬ ((2819 : Int) ≤ n) := by omega
    have q3 : ¬ ((decide (3075 ≤ n) && decide (n ≤ 3103)) = true) := by simp; omega
    have i3 : ¬ ((3075 : Int) ≤ n) := by omega
    have HV : Hid (v = .tuple #[.string ⟨#[]⟩, .int .i64 0, .bool false]) := by unfold Hid; rw [hv, if_neg q0, if_neg q1, if_neg q2, if_neg q3]
    clear hv u t q0 q1 q2 q3
    go_enter Tryd.func22, Tryd.ntmps22
    go_wp2
    go_ret3
    exact ⟨by rw [HV.out]; rfl, rfl⟩
  · have q0 : ¬ ((decide (803 ≤ n) && decide (n ≤ 831)) = true) := by simp; omega
    have i0 : (803 : Int) ≤ n := by omega
    have k0 : ¬ ((n : Int) ≤ 831) := by omega
    have q1 : (decide (944 ≤ n) && decide (n ≤ 959)) = true := by simp; omega
    have i1 : (944 : Int) ≤ n := by omega
    have k1 : (n : Int) ≤ 959 := by omega
    have HV : Hid (v = .tuple #[.string (bs [112, 109, 112, 97, 100, 100, 114]), .int .i64 ((n - 944 : Nat) : Int), .bool true]) := by unfold Hid; rw [hv, if_neg q0, if_pos q1]
    obtain ⟨m, hm⟩ : ∃ m : Nat, m = n - 944 := ⟨_, rfl⟩
    have i9 : (n : Int) - 944 = (m : Int) := by omega
    rw [← hm] at HV
    clear hm
    clear hv u t q0 q1
    go_enter Tryd.func22, Tryd.ntmps22
    go_wp2
    go_ret3
    exact ⟨by rw [HV.out]; rfl, rfl⟩
  · have q0 : ¬ ((decide (803 ≤ n) && decide (n ≤ 831)) = true) := by simp; omega
    have i0 : (803 : Int) ≤ n := by omega
    have k0 : ¬ ((n : Int) ≤ 831) := by omega
    have q1 : ¬ ((decide (944 ≤ n) && decide (n ≤ 959)) = true) := by simp; omega
    have i1 : (944 : Int) ≤ n := by omega
    have k1 : ¬ ((n : Int) ≤ 959) := by omega
    have q2 : ¬ ((decide (2819 ≤ n) && decide (n ≤ 2847)) = true) := by simp; omega
    have i2 : ¬ ((2819 : Int) ≤ n) := by omega
    have q3 : ¬ ((decide (3075 ≤ n) && decide (n ≤ 3103)) = true) := by simp; omega
    have i3 : ¬ ((3075 : Int) ≤ n) := by omega
    have HV : Hid (v = .tuple #[.string ⟨#[]⟩, .int .i64 0, .bool false]) := by unfold Hid; rw [hv, if_neg q0, if_neg q1, if_neg q2, if_neg q3]
    clear hv u t q0 q1 q2 q3
    go_enter Tryd.func22, Tryd.ntmps22
    go_wp2
    go_ret3
    exact ⟨by rw [HV.out]; rfl, rfl⟩
  · have q0 : ¬ ((decide (803 ≤ n) && decide (n ≤ 831)) = true) := by simp; omega
    have i0 : (803 : Int) ≤ n := by omega
    have k0 : ¬ ((n : Int) ≤ 831) := by omega
    have q1 : ¬ ((decide (944 ≤ n) && decide (n ≤ 959)) = true) := by simp; omega
    have i1 : (944 : Int) ≤ n := by omega
    have k1 : ¬ ((n : Int) ≤ 959) := by omega
    have q2 : (decide (2819 ≤ n) && decide (n ≤ 2847)) = true := by simp; omega
    have i2 : (2819 : Int) ≤ n := by omega
    have k2 : (n : Int) ≤ 2847 := by omega
    have HV : Hid (v = .tuple #[.string (bs [109, 104, 112, 109, 99, 111, 117, 110, 116, 101, 114]), .int .i64 ((n - 2816 : Nat) : Int), .bool true]) := by unfold Hid; rw [hv, if_neg q0, if_neg q1, if_pos q2]
    obtain ⟨m, hm⟩ : ∃ m : Nat, m = n - 2816 := ⟨_, rfl⟩
    have i9 : (n : Int) - 2816 = (m : Int) := by omega
    rw [← hm] at HV
    clear hm
    clear hv u t q0 q1 q2
    go_enter Tryd.func22, Tryd.ntmps22
    go_wp2
    go_ret3
    exact ⟨by rw [HV.out]; rfl, rfl⟩
  · have q0 : ¬ ((decide (803 ≤ n) && decide (n ≤ 831)) = true) := by simp; omega
    have i0 : (803 : Int) ≤ n := by omega
    have k0 : ¬ ((n : Int) ≤ 831) := by omega
    have q1 : ¬ ((decide (944 ≤ n) && decide (n ≤ 959)) = true) := by simp; omega
    have i1 : (944 : Int) ≤ n := by omega
    have k1 : ¬ ((n : Int) ≤ 959) := by omega
    have q2 : ¬ ((decide (2819 ≤ n) && decide (n ≤ 2847)) = true) := by simp; omega
    have i2 : (2819 : Int) ≤ n := by omega
    have k2 : ¬ ((n : Int) ≤ 2847) := by omega
    have q3 : ¬ ((decide (3075 ≤ n) && decide (n ≤ 3103)) = true) := by simp; omega
    have i3 : ¬ ((3075 : Int) ≤ n) := by omega
    have HV : Hid (v = .tuple #[.string ⟨#[]⟩, .int .i64 0, .bool false]) := by unfold Hid; rw [hv, if_neg q0, if_neg q1, if_neg q2, if_neg q3]
    clear hv u t q0 q1 q2 q3
    go_enter Tryd.func22, Tryd.ntmps22
    go_wp2
    go_ret3
    exact ⟨by rw [HV.out]; rfl, rfl⟩
  · have q0 : ¬ ((decide (803 ≤ n) && decide (n ≤ 831)) = true) := by simp; omega
    have i0 : (803 : Int) ≤ n := by omega
    have k0 : ¬ ((n : Int) ≤ 831) := by omega
    have q1 : ¬ ((decide (944 ≤ n) && decide (n ≤ 959)) = true) := by simp; omega
    have i1 : (944 : Int) ≤ n := by omega
    have k1 : ¬ ((n : Int) ≤ 959) := by omega
    have q2 : ¬ ((decide (2819 ≤ n) && decide (n ≤ 2847)) = true) := by simp; omega
    have i2 : (2819 : Int) ≤ n := by omega
    have k2 : ¬ ((n : Int) ≤ 2847) := by omega
    have q3 : (decide (3075 ≤ n) && decide (n ≤ 3103)) = true := by simp; omega
    have i3 : (3075 : Int) ≤ n := by omega
    have k3 : (n : Int) ≤ 3103 := by omega
    have HV : Hid (v = .tuple #[.string (bs [104, 112, 109, 99, 111, 117, 110, 116, 101, 114]), .int .i64 ((n - 3072 : Nat) : Int), .bool true]) := by unfold Hid; rw [hv, if_neg q0, if_neg q1, if_neg q2, if_pos q3]
    obtain ⟨m, hm⟩ : ∃ m : Nat, m = n - 3072 := ⟨_, rfl⟩
    have i9 : (n : Int) - 3072 = (m : Int) := by omega
    rw [← hm] at HV
    clear hm
    clear hv u t q0 q1 q2 q3
    go_enter Tryd.func22, Tryd.ntmps22
    go_wp2
    go_ret3
    exact ⟨by rw [HV.out]; rfl, rfl⟩
  · have q0 : ¬ ((decide (803 ≤ n) && decide (n ≤ 831)) = true) := by simp; omega
    have i0 : (803 : Int) ≤ n := by omega
    have k0 : ¬ ((n : Int) ≤ 831) := by omega
    have q1 : ¬ ((decide (944 ≤ n) && decide (n ≤ 959)) = true) := by simp; omega
    have i1 : (944 : Int) ≤ n := by omega
    have k1 : ¬ ((n : Int) ≤ 959) := by omega
    have q2 : ¬ ((decide (2819 ≤ n) && decide (n ≤ 2847)) = true) := by simp; omega
    have i2 : (2819 : Int) ≤ n := by omega
    have k2 : ¬ ((n : Int) ≤ 2847) := by omega
    have q3 : ¬ ((decide (3075 ≤ n) && decide (n ≤ 3103)) = true) := by simp; omega
    have i3 : (3075 : Int) ≤ n := by omega
    have k3 : ¬ ((n : Int) ≤ 3103) := by omega
    have HV : Hid (v = .tuple #[.string ⟨#[]⟩, .int .i64 0, .bool false]) := by unfold Hid; rw [hv, if_neg q0, if_neg q1, if_neg q2, if_neg q3]
    clear hv u t q0 q1 q2 q3
    go_enter Tryd.func22, Tryd.ntmps22
    go_wp2
    go_ret3
    exact ⟨by rw [HV.out]; rfl, rfl⟩
theorem ctV_form (n : Nat) (hn : n < 4096) : ∃ (l : ByteArray) (k : Nat) (b : Bool), ctV n = .tuple #[.string l, .int .i64 k, .bool b] ∧ l.size ≤ 11 ∧ k < 100 ∧ (b = true → ∃ l', ctR n = some (l', k) ∧ l = bs l') ∧ (b = false → ctR n = none) := by
  cases h : ctR n with
  | none => exact ⟨⟨#[]⟩, 0, false, by unfold ctV; rw [h]; rfl, by decide, by omega, fun h => (by cases h), fun _ => rfl⟩
  | some p =>
    obtain ⟨l, k⟩ := p
    refine ⟨bs l, k, true, by unfold ctV; rw [h], ?_, ?_, fun _ => ⟨l, rfl, rfl⟩, fun h => (by cases h)⟩
    · unfold ctR at h
      repeat' split at h
      all_goals first | (simp only [Option.some.injEq, Prod.mk.injEq] at h; obtain ⟨rfl, _⟩ := h; decide) | (cases h)
    · unfold ctR at h
      repeat' split at h
      all_goals first | (rename_i q; simp only [Bool.and_eq_true, decide_eq_true_eq] at q; simp only [Option.some.injEq, Prod.mk.injEq] at h; omega) | (cases h)
set_option maxRecDepth 100000 in
set_option maxHeartbeats 4000000 in
theorem rcsr_c (n : Nat) (hn : n < 4096) (w : World) (hN : Nr w) : Calls Tryd.prog 12 #[.int .i64 n] w fun e w' => e = .returned (.string (csrS n)) ∧ Below w.heap.size w w' := by
  obtain ⟨s, hs⟩ : ∃ s, s = csrS n := ⟨_, rfl⟩
  rw [← hs]
  obtain ⟨ea, eb⟩ := agree_at n hn
  have HS : Hid (s = match nmR n with | some l => bs l | none => match ctR n with | some (l, k) => bs l ++ decS k | none => ⟨#[48, 120]⟩ ++ hx n) := by
    unfold Hid
    rw [hs]
    unfold csrS
    rw [ea, eb]
    cases nmR n with
    | some _ => rfl
    | none =>
      cases ctR n with
      | some _ => rfl
      | none => rfl
  have HX : Hid (∀ w : World, Calls Tryd.prog 23 #[.int .u64 n] w fun e w' => e = .returned (.string (hx n)) ∧ Below w.heap.size w w') := rhex_c n hn
  obtain ⟨l, k0, b, hct, hl, hk0, hbt, hbf⟩ := ctV_form n hn
  have HCT : Hid (∀ w : World, Calls Tryd.prog 22 #[.int .i64 n] w fun e w' => e = .returned (.tuple #[.string l, .int .i64 k0, .bool b]) ∧ w' = w) := fun w => hct ▸ counted_c n hn w
  have HDC : Hid (∀ w : World, Calls Tryd.prog 17 #[.int .i64 k0] w fun e w' => e = .returned (.string (decS k0)) ∧ Below w.heap.size w w') := decimal_c k0 hk0
  have HBT : Hid (b = true → nmR n = none → s = l ++ decS k0) := fun h1 h2 => by
    obtain ⟨l', e1, e2⟩ := hbt h1
    rw [HS.out, h2, e1, e2]
  have HBF : Hid (b = false → nmR n = none → s = ⟨#[48, 120]⟩ ++ hx n) := fun h1 h2 => by
    rw [HS.out, h2, hbf h1]
  have hz1 : ¬ (9223372036854775807 < 2 + (hx n).size) := by have := hx_size n; omega
  have hz2 : ¬ (9223372036854775807 < l.size + (decS k0).size) := by have := decS_size2 k0 hk0; omega
  have hI1 : ¬ ((n : Int) < 0) := by omega
  have hI2 : ¬ ((4095 : Int) < n) := by omega
  have hI3 : (n : Int) < 4096 := by omega
  have HN : Hid (Nr w) := hN
  generalize decS k0 = dk at HDC HBT hz2
  generalize hx n = hn0 at HX HBF hz1 HS
  clear hs ea eb hct hl hk0 hbt hbf hN
  go_enter Tryd.func12, Tryd.ntmps12
  go_wp2
  --@CUT1
  go_loopw [3] (fun i wr => ∃ k : Nat, k ≤ 24 ∧ i = .int .i64 k ∧ Hid (∀ j, j < k → ((nrT.getD j (0, [])).1 == n) = false) ∧ wr = w) (fun i _ => 24 - (intOf i).toNat)
  case atStart => exact ⟨0, by omega, rfl, (fun j hj => by omega), rfl⟩
  case round =>
    obtain ⟨k, hk, rfl, hno, hwr⟩ := hrel
    subst hwr
    by_cases hlt : k < 24
    · have hltI : (k : Int) < 24 := by omega
      have hlt26 : (k : Int) < 26 := by omega
      obtain ⟨h0, h1⟩ := HN.out k hlt
      have HFD : Hid ((nrT.getD k (0, [])).1 = n → s = bs (nrT.getD k (0, [])).2) := fun h => by
        have e : nmR n = some (nrT.getD k (0, [])).2 := by
          unfold nmR
          rw [find_at (d := (0, [])) (show k < nrT.length from hlt) hno.out (by simpa using h)]
          rfl
        rw [HS.out, e]
      have HKK : Hid (¬ (nrT.getD k (0, [])).1 = n → ∀ i, i < k + 1 → ((nrT.getD i (0, [])).1 == n) = false) := fun h i hi => by
        rcases Nat.lt_or_eq_of_le (Nat.le_of_lt_succ hi) with hi | rfl
        · exact hno.out i hi
        · simpa using h
      generalize nrT.getD k (0, []) = c at h0 h1 HFD HKK
      obtain ⟨F, nm⟩ := c
      simp only at h0 h1 HFD HKK
      by_cases hF : F = n
      · have hq : ((F : Int) == (n : Int)) = true := by simp [hF]
        have HRR : Hid (s = bs nm) := HFD.out hF
        generalize bs nm = sb at h1 HRR
        clear hF HFD HKK
        go_wp2
        --@CUT2
        go_ret
        exact ⟨by rw [HRR.out]; rfl, Below.refl _ _⟩
      · have hq : ((F : Int) == (n : Int)) = false := by simp; omega
        have HNH : Hid (∀ i, i < k + 1 → ((nrT.getD i (0, [])).1 == n) = false) := HKK.out hF
        clear hF HFD HKK
        go_wp2
        --@CUT3
        go_roundw
        · exact ⟨k + 1, by omega, by simp, HNH.out, by trivial⟩
        · simp only [intOf]; omega
    · obtain rfl : k = 24 := by omega
      rw [show ((24 : Nat) : Int) = (24 : Int) from rfl]
      have HNO : Hid (nmR n = none) := by
        unfold Hid nmR
        rw [find_no (p := fun c => c.1 == n) (d := (0, [])) (show ∀ j, j < nrT.length → ((nrT.getD j (0, [])).1 == n) = false from hno.out)]
        rfl
      cases b
      · have HRR : Hid (s = ⟨#[48, 120]⟩ ++ hn0) := HBF.out rfl HNO.out
        clear hno
        go_wp2_with (first | (go_at_call 22; refine (HCT.out _).mono ?_; rintro e w1 ⟨rfl, hw⟩; have hw2 := hw.symm; subst hw2) | (go_at_call 23; refine (HX.out _).mono ?_; rintro e w2 ⟨rfl, hb⟩; have HB : Hid (Below wr.heap.size wr w2) := hb; clear hb))
        --@CUT4
        go_ret
        exact ⟨by rw [HRR.out]; rfl, HB.out⟩
      · have HRR : Hid (s = l ++ dk) := HBT.out rfl HNO.out
        clear hno
        go_wp2_with (first | (go_at_call 22; refine (HCT.out _).mono ?_; rintro e w1 ⟨rfl, hw⟩; have hw2 := hw.symm; subst hw2) | (go_at_call 17; refine (HDC.out _).mono ?_; rintro e w2 ⟨rfl, hb⟩; have HB : Hid (Below wr.heap.size wr w2) := hb; clear hb))
        --@CUT5
        go_ret
        exact ⟨by rw [HRR.out]; rfl, HB.out⟩
end Go.Proofs.YtechkhlibdkmpaaDoor
