/-
  Csr of the program.
-/
import Derived.Test.YtechkhlibdkmpaaDoorSf
namespace Go.Proofs.YtechkhlibdkmpaaDoor
set_option linter.unusedVariables false
open Go.ChangeShapes Go.WideShapes Go.ChangeAt Go.RowKit Go.Deep Go.Shelf
def nmH (n : Nat) (c : Nat × List (List UInt8)) : Bool := decide (c.1 ≤ n) && decide (n < c.1 + c.2.length)
def nmP (n : Nat) : Option (List UInt8) := (csT.find? (nmH n)).map fun c => c.2.getD (n - c.1) []
def ctH (n : Nat) (c : Nat × Nat × Nat × List UInt8) : Bool := decide (c.1 ≤ n) && decide (n - c.1 + c.2.1 ≤ c.2.2.1)
def ctP (n : Nat) : Option (List UInt8 × Nat) := (ctT.find? (ctH n)).map fun c => (c.2.2.2, n - c.1 + c.2.1)
/-- What Csr answers. -/
def csrS (n : Nat) : ByteArray := match nmP n with | some l => bs l | none => match ctP n with | some (l, k) => bs l ++ decS k | none => ⟨#[48, 120]⟩ ++ hx n
theorem find_at {α : Type} {p : α → Bool} {d : α} : ∀ {l : List α} {k : Nat}, k < l.length → (∀ j, j < k → p (l.getD j d) = false) → p (l.getD k d) = true → l.find? p = some (l.getD k d)
  | [], k, hk, _, _ => by simp at hk
  | x :: xs, 0, hk, h, he => by
    have e : p x = true := by simpa using he
    simp [e]
  | x :: xs, k + 1, hk, h, he => by
    have h0 : p x = false := by simpa using h 0 (by omega)
    rw [List.find?_cons_of_neg (by simp [h0]), List.getD_cons_succ]
    exact find_at (by simpa using hk) (fun j hj => by have := h (j + 1) (by omega); simpa using this) (by simpa using he)
theorem find_no {α : Type} {p : α → Bool} {d : α} : ∀ {l : List α}, (∀ j, j < l.length → p (l.getD j d) = false) → l.find? p = none
  | [], _ => rfl
  | x :: xs, h => by
    have h0 : p x = false := by simpa using h 0 (by simp)
    rw [List.find?_cons_of_neg (by simp [h0])]
    exact find_no (d := d) (fun j hj => by have := h (j + 1) (by simpa using hj); simpa using this)
theorem csT_ok : (csT.all fun c => decide (c.1 < 4096) && decide (c.2.length ≤ 5)) = true := by decide
theorem ctT_ok : (ctT.all fun c => decide (c.1 < 4096) && (decide (c.2.1 ≤ 3) && (decide (c.2.2.1 ≤ 31) && decide (c.2.2.2.length ≤ 11)))) = true := by decide
theorem csT_at (k : Nat) (h : k < 11) : (csT.getD k (0, [])).1 < 4096 ∧ (csT.getD k (0, [])).2.length ≤ 5 := by
  have hm : csT.getD k (0, []) ∈ csT := by
    rw [List.getD_eq_getElem?_getD, List.getElem?_eq_getElem (show k < csT.length from h)]
    exact List.getElem_mem _
  have := List.all_eq_true.1 csT_ok _ hm
  simpa using this
theorem ctT_at (k : Nat) (h : k < 4) : (ctT.getD k (0, 0, 0, [])).1 < 4096 ∧ (ctT.getD k (0, 0, 0, [])).2.1 ≤ 3 ∧ (ctT.getD k (0, 0, 0, [])).2.2.1 ≤ 31 ∧ (ctT.getD k (0, 0, 0, [])).2.2.2.length ≤ 11 := by
  have hm : ctT.getD k (0, 0, 0, []) ∈ ctT := by
    rw [List.getD_eq_getElem?_getD, List.getElem?_eq_getElem (show k < ctT.length from h)]
    exact List.getElem_mem _
  have := List.all_eq_true.1 ctT_ok _ hm
  simpa using this
set_option maxRecDepth 100000 in
set_option maxHeartbeats 8000000 in
theorem csr_c (n : Nat) (hn : n < 4096) (w : World) (hT : Tz w) : Calls Tryd.prog 11 #[.int .i64 n] w fun e w' => e = .returned (.string (csrS n)) ∧ Below w.heap.size w w' := by
  obtain ⟨R, hR⟩ : ∃ R, R = csrS n := ⟨_, rfl⟩
  rw [← hR]
  have HR : Hid (R = csrS n) := hR
  have HT : Hid (Tz w) := hT
  have HX : Hid (∀ w : World, Tz w → Calls Tryd.prog 21 #[.int .u64 n] w fun e w' => e = .returned (.string (⟨#[48, 120]⟩ ++ hx n)) ∧ Below w.heap.size w w') := fun w h => phex_c n hn w h
  have hI1 : ¬ ((n : Int) < 0) := by omega
  have hI2 : ¬ ((4096 : Int) ≤ n) := by omega
  have hI3 : (n : Int) < 4096 := by omega
  clear hR hT
  go_enter Tryd.func11, Tryd.ntmps11
  go_wp2_with (first | (go_at_call 18; refine (named_n _).mono ?_; rintro e w1 ⟨g, rfl, hg, hm, hb⟩; have HN : Hid (Nmd g w.heap.size w1) := hm; have HB1 : Hid (Below w.heap.size w w1) := hb; clear hg hm hb))
  --@CUT1
  go_loopw [4, 5, 17] (fun _ _ i wr => ∃ k : Nat, k ≤ 11 ∧ i = .int .i64 k ∧ Hid (∀ j, j < k → nmH n (csT.getD j (0, [])) = false) ∧ Hid (Below w1.heap.size w1 wr)) (fun _ _ i _ => 11 - (intOf i).toNat)
  case atStart => exact ⟨0, by omega, rfl, (fun j hj => by omega), Below.refl _ _⟩
  case round =>
    obtain ⟨k, hk, rfl, hno, hb⟩ := hrel
    by_cases hlt : k < 11
    · as_aux_lemma =>
      have hltI : (k : Int) < 11 := by omega
      obtain ⟨h0, h1, h2⟩ := HN.out k hlt
      obtain ⟨q1, q2⟩ := csT_at k hlt
      have HH : Hid (nmH n (csT.getD k (0, [])) = (decide ((csT.getD k (0, [])).1 ≤ n) && decide (n < (csT.getD k (0, [])).1 + (csT.getD k (0, [])).2.length))) := rfl
      have HFD : Hid (nmH n (csT.getD k (0, [])) = true → R = bs ((csT.getD k (0, [])).2.getD (n - (csT.getD k (0, [])).1) [])) := fun h => by
        rw [HR.out]
        unfold csrS nmP
        rw [find_at (d := (0, [])) (show k < csT.length from hlt) hno.out h]
        rfl
      have HKK : Hid (nmH n (csT.getD k (0, [])) = false → ∀ i, i < k + 1 → nmH n (csT.getD i (0, [])) = false) := fun h i hi => by
        rcases Nat.lt_or_eq_of_le (Nat.le_of_lt_succ hi) with hi | rfl
        · exact hno.out i hi
        · exact h
      generalize csT.getD k (0, []) = c at h0 h1 h2 q1 q2 HH HFD HKK
      obtain ⟨F, l⟩ := c
      simp only at h0 h1 h2 q1 q2 HH HFD HKK
      have lt0 : g < w1.heap.size := World.block_lt_of_cell? w1 _ h0
      have e0 : wr.cell? ⟨g, k * 2, none⟩ = some (.int .i64 F) := (hb.out.cell (p := ⟨g, k * 2, none⟩) lt0).trans h0
      have e1 : wr.cell? ⟨g, k * 2 + 1, none⟩ = some (.slice (some ⟨w.heap.size + k, 0, none⟩) l.length l.length) := (hb.out.cell (p := ⟨g, k * 2 + 1, none⟩) lt0).trans h1
      have HE2 : Hid (∀ j, j < l.length → ∀ o, (wr.alloc o).cell? ⟨w.heap.size + k, j, none⟩ = some (.string (bs (l.getD j [])))) := fun j hj o => by
        have lt1 : w.heap.size + k < w1.heap.size := World.block_lt_of_cell? w1 _ (h2 j hj)
        exact ((below_al wr o).cell (p := ⟨w.heap.size + k, j, none⟩) (Nat.lt_of_lt_of_le lt1 hb.out.size)).trans ((hb.out.cell (p := ⟨w.heap.size + k, j, none⟩) lt1).trans (h2 j hj))
      clear h0 h1 h2 lt0
      obtain ⟨Ln, hLn⟩ : ∃ Ln, Ln = l.length := ⟨_, rfl⟩
      rw [← hLn] at e1 q2 HH
      by_cases hF : F ≤ n
      · obtain ⟨j, hj⟩ : ∃ j, n = F + j := ⟨n - F, by omega⟩
        have hat : (n : Int) - (F : Int) = (j : Int) := by omega
        have hjb : (j : Int) ≤ 4096 := by omega
        by_cases hL : j < Ln
        · have hLI : (j : Int) < Ln := by omega
          have hcell := HE2.out j (by omega)
          have HRR : Hid (R = bs (l.getD j [])) := by
            have := HFD.out (by rw [HH.out]; simp; omega)
            rw [show n - F = j by omega] at this
            exact this
          have HBF : Hid (∀ o, Below w.heap.size w (wr.alloc o)) := fun o => (HB1.out.trans (hb.out.mono HB1.out.size)).trans ((below_al wr o).mono (HB1.out.trans (hb.out.mono HB1.out.size)).size)
          generalize bs (l.getD j []) = s at hcell HRR
          clear hj hF hL hLn q1 q2
          go_wp2
          --@CUT2
          go_ret
          exact ⟨by rw [HRR.out]; rfl, HBF.out _⟩
        · have hLI : ¬ ((j : Int) < Ln) := by omega
          have HNH : Hid (∀ i, i < k + 1 → nmH n (csT.getD i (0, [])) = false) := HKK.out (by rw [HH.out]; simp; omega)
          clear hj hF hL hLn q1 q2
          go_wp2
          --@CUT3
          go_roundw
          · exact ⟨k + 1, by omega, by simp, HNH.out, hb.out.trans ((below_al wr _).mono hb.out.size)⟩
          · simp only [intOf]; omega
      · obtain ⟨a, hat⟩ : ∃ a : Int, (n : Int) - (F : Int) = a := ⟨_, rfl⟩
        have hneg : ¬ ((0 : Int) ≤ a) := by omega
        have hnb : -4096 ≤ a := by omega
        have HNH : Hid (∀ i, i < k + 1 → nmH n (csT.getD i (0, [])) = false) := HKK.out (by rw [HH.out]; simp; omega)
        clear hF hLn q1 q2
        go_wp2
        --@CUT4
        go_roundw
        · exact ⟨k + 1, by omega, by simp, HNH.out, hb.out.trans ((below_al wr _).mono hb.out.size)⟩
        · simp only [intOf]; omega
    · obtain rfl : k = 11 := by omega
      rw [show ((11 : Nat) : Int) = (11 : Int) from rfl]
      --@CUT5
      have HNO : Hid (nmP n = none) := by
        unfold Hid nmP
        rw [find_no (d := (0, [])) (show ∀ j, j < csT.length → _ from hno.out)]
        rfl
      have HBr : Hid (Below w.heap.size w wr) := HB1.out.trans (hb.out.mono HB1.out.size)
      clear hb hno HN HB1
      go_wp2_with (first | (go_at_call 19; refine (cnt_n _).mono ?_; rintro e w3 ⟨g2, rfl, hg, hm, hb⟩; have HC : Hid (Ctd g2 w3) := hm; have HB3 : Hid (Below w.heap.size w w3) := HBr.out.trans (hb.mono HBr.out.size); clear hg hm hb))
      --@CUT6
      go_loopw [7, 8, 42] (fun _ _ i wr => ∃ k : Nat, k ≤ 4 ∧ i = .int .i64 k ∧ Hid (∀ j, j < k → ctH n (ctT.getD j (0, 0, 0, [])) = false) ∧ Hid (Below w3.heap.size w3 wr)) (fun _ _ i _ => 4 - (intOf i).toNat)
      case atStart => exact ⟨0, by omega, rfl, (fun j hj => by omega), Below.refl _ _⟩
      case round =>
        obtain ⟨k, hk, rfl, hno, hb⟩ := hrel
        by_cases hlt : k < 4
        · as_aux_lemma =>
          have hltI : (k : Int) < 4 := by omega
          obtain ⟨h0, h1, h2, h3⟩ := HC.out k hlt
          obtain ⟨q1, q2, q3, q4⟩ := ctT_at k hlt
          have HH : Hid (ctH n (ctT.getD k (0, 0, 0, [])) = (decide ((ctT.getD k (0, 0, 0, [])).1 ≤ n) && decide (n - (ctT.getD k (0, 0, 0, [])).1 + (ctT.getD k (0, 0, 0, [])).2.1 ≤ (ctT.getD k (0, 0, 0, [])).2.2.1))) := rfl
          have HFD : Hid (ctH n (ctT.getD k (0, 0, 0, [])) = true → R = bs (ctT.getD k (0, 0, 0, [])).2.2.2 ++ decS (n - (ctT.getD k (0, 0, 0, [])).1 + (ctT.getD k (0, 0, 0, [])).2.1)) := fun h => by
            rw [HR.out]
            unfold csrS
            rw [HNO.out]
            unfold ctP
            rw [find_at (d := (0, 0, 0, [])) (show k < ctT.length from hlt) hno.out h]
            rfl
          have HKK : Hid (ctH n (ctT.getD k (0, 0, 0, [])) = false → ∀ i, i < k + 1 → ctH n (ctT.getD i (0, 0, 0, [])) = false) := fun h i hi => by
            rcases Nat.lt_or_eq_of_le (Nat.le_of_lt_succ hi) with hi | rfl
            · exact hno.out i hi
            · exact h
          generalize ctT.getD k (0, 0, 0, []) = c at h0 h1 h2 h3 q1 q2 q3 q4 HH HFD HKK
          obtain ⟨F, lo, hi, l⟩ := c
          simp only at h0 h1 h2 h3 q1 q2 q3 q4 HH HFD HKK
          have lt0 : g2 < w3.heap.size := World.block_lt_of_cell? w3 _ h0
          have e0 : wr.cell? ⟨g2, k * 4, none⟩ = some (.int .i64 F) := (hb.out.cell (p := ⟨g2, k * 4, none⟩) lt0).trans h0
          have e1 : wr.cell? ⟨g2, k * 4 + 1, none⟩ = some (.int .i64 lo) := (hb.out.cell (p := ⟨g2, k * 4 + 1, none⟩) lt0).trans h1
          have e2 : wr.cell? ⟨g2, k * 4 + 2, none⟩ = some (.int .i64 hi) := (hb.out.cell (p := ⟨g2, k * 4 + 2, none⟩) lt0).trans h2
          have e3 : wr.cell? ⟨g2, k * 4 + 3, none⟩ = some (.string (bs l)) := (hb.out.cell (p := ⟨g2, k * 4 + 3, none⟩) lt0).trans h3
          have hsl : (bs l).size ≤ 100 := by show l.toArray.size ≤ 100; simp; omega
          clear h0 h1 h2 h3 lt0
          have HBR : Hid (Below w.heap.size w wr) := HB3.out.trans (hb.out.mono HB3.out.size)
          obtain ⟨a, hat⟩ : ∃ a : Int, (n : Int) - (F : Int) = a := ⟨_, rfl⟩
          obtain ⟨m, hmt⟩ : ∃ m : Int, a + (lo : Int) = m := ⟨_, rfl⟩
          have hab : -4096 ≤ a ∧ a ≤ 4096 := by omega
          have hmb : -5000 ≤ m ∧ m ≤ 5000 := by omega
          by_cases hF : F ≤ n
          · by_cases hL : n - F + lo ≤ hi
            · obtain ⟨c, hc⟩ : ∃ c : Nat, c = n - F + lo := ⟨_, rfl⟩
              have hmc : m = (c : Int) := by omega
              have HRR : Hid (R = bs l ++ decS c) := by
                have := HFD.out (by rw [HH.out]; simp; omega)
                rw [← hc] at this
                exact this
              have HNC : Hid (∀ w : World, Calls Tryd.prog 20 #[.agg #[.int .i64 F, .int .i64 lo, .int .i64 hi, .string (bs l)], .int .i64 c] w fun e w' => e = .returned (.string (bs l ++ decS c)) ∧ Below w.heap.size w w') := name_c F lo hi (bs l) c (by omega) hsl
              have t1 : (lo : Int) ≤ c := by omega
              have t2 : (c : Int) ≤ hi := by omega
              have t3 : (c : Int) ≤ 31 := by omega
              subst hmc
              generalize bs l = sl at e3 HNC HRR
              generalize sl ++ decS c = res at HNC HRR
              have HBA : Hid (∀ (o : Obj) (w5 : World), Below (wr.alloc o).heap.size (wr.alloc o) w5 → Below w.heap.size w w5) := fun o w5 h => by
                have h1 : Below w.heap.size w (wr.alloc o) := HBR.out.trans ((below_al wr o).mono HBR.out.size)
                exact h1.trans (h.mono h1.size)
              clear hF hL hc q1 q2 q3 q4 hsl HH HFD HKK hab hmb
              --@CUT7
              go_wp2_with (first | (go_at_call 20; refine (HNC.out _).mono ?_; rintro e w5 ⟨rfl, hb5⟩; have HB5 : Hid (Below w.heap.size w w5) := HBA.out _ _ hb5; clear hb5))
              --@CUT8
              go_ret
              exact ⟨by rw [HRR.out]; rfl, HB5.out⟩
            · have t1 : (lo : Int) ≤ m := by omega
              have t2 : ¬ (m ≤ (hi : Int)) := by omega
              have HNH : Hid (∀ i, i < k + 1 → ctH n (ctT.getD i (0, 0, 0, [])) = false) := HKK.out (by rw [HH.out]; simp; omega)
              clear hF hL q1 q2 q3 q4 hsl HH HFD HKK
              go_wp2
              go_roundw
              · exact ⟨k + 1, by omega, by simp, HNH.out, hb.out.trans ((below_al wr _).mono hb.out.size)⟩
              · simp only [intOf]; omega
          · have t1 : ¬ ((lo : Int) ≤ m) := by omega
            have HNH : Hid (∀ i, i < k + 1 → ctH n (ctT.getD i (0, 0, 0, [])) = false) := HKK.out (by rw [HH.out]; simp; omega)
            clear hF q1 q2 q3 q4 hsl HH HFD HKK
            go_wp2
            go_roundw
            · exact ⟨k + 1, by omega, by simp, HNH.out, hb.out.trans ((below_al wr _).mono hb.out.size)⟩
            · simp only [intOf]; omega
        · obtain rfl : k = 4 := by omega
          rw [show ((4 : Nat) : Int) = (4 : Int) from rfl]
          have HCO : Hid (R = ⟨#[48, 120]⟩ ++ hx n) := by
            unfold Hid
            rw [HR.out]
            unfold csrS
            rw [HNO.out]
            have : ctP n = none := by
              unfold ctP
              rw [find_no (d := (0, 0, 0, [])) (show ∀ j, j < ctT.length → _ from hno.out)]
              rfl
            rw [this]
          have HBR : Hid (Below w.heap.size w wr) := HB3.out.trans (hb.out.mono HB3.out.size)
          have HTr : Hid (Tz wr) := HT.out.next HBR.out
          generalize (⟨#[48, 120]⟩ ++ hx n : ByteArray) = res at HX HCO
          clear hno hb HC HB3
          --@CUT9
          go_wp2_with (first | (go_at_call 21; refine (HX.out _ HTr.out).mono ?_; rintro e w6 ⟨rfl, hb⟩; have HB6 : Hid (Below w.heap.size w w6) := HBR.out.trans (hb.mono HBR.out.size); clear hb))
          go_ret
          exact ⟨by rw [HCO.out]; rfl, HB6.out⟩
end Go.Proofs.YtechkhlibdkmpaaDoor
