/-
  CsrOf of the program.
-/
import Derived.Test.YtechkhlibdkmpaaDoorSg
import Derived.Test.YtechkhlibdkmpaaDoorSj
namespace Go.Proofs.YtechkhlibdkmpaaDoor
set_option linter.unusedVariables false
open Go.ChangeShapes Go.WideShapes Go.ChangeAt Go.RowKit Go.Deep Go.Shelf
/-- The name of a CSR that has one. -/
def keyL (n : Nat) : Option (List UInt8) := match nmP n with | some l => some l | none => match ctP n with | some (l, k) => some (l ++ (decS k).toList) | none => none
theorem bs_toList (l : List UInt8) : (bs l).toList = l := by rw [ByteArray.toList_eq]; rfl
theorem app_toList (a b : ByteArray) : (a ++ b).toList = a.toList ++ b.toList := by
  rw [ByteArray.toList_eq, ByteArray.toList_eq, ByteArray.toList_eq, ByteArray.data_append, Array.toList_append]
def nmAll : Bool := (List.range 11).all fun k => (List.range (csT.getD k (0, [])).2.length).all fun j => nmP ((csT.getD k (0, [])).1 + j) == some ((csT.getD k (0, [])).2.getD j []) && decide ((csT.getD k (0, [])).1 + j < 4096)
theorem nm_all : nmAll = true := by decide +kernel
theorem nm_hit (k j : Nat) (hk : k < 11) (hj : j < (csT.getD k (0, [])).2.length) : nmP ((csT.getD k (0, [])).1 + j) = some ((csT.getD k (0, [])).2.getD j []) ∧ (csT.getD k (0, [])).1 + j < 4096 := by
  have h := List.all_eq_true.1 (List.all_eq_true.1 nm_all k (by simpa using hk)) j (by simpa using hj)
  simpa using h
def ctAll : Bool := (List.range 4).all fun k => (List.range 32).all fun c => decide (c < (ctT.getD k (0, 0, 0, [])).2.1) || decide ((ctT.getD k (0, 0, 0, [])).2.2.1 < c) || (nmP ((ctT.getD k (0, 0, 0, [])).1 + c - (ctT.getD k (0, 0, 0, [])).2.1) == none && ctP ((ctT.getD k (0, 0, 0, [])).1 + c - (ctT.getD k (0, 0, 0, [])).2.1) == some ((ctT.getD k (0, 0, 0, [])).2.2.2, c) && decide ((ctT.getD k (0, 0, 0, [])).1 + c - (ctT.getD k (0, 0, 0, [])).2.1 < 4096))
theorem ct_all : ctAll = true := by decide +kernel
theorem ct_hit (k c : Nat) (hk : k < 4) (h1 : (ctT.getD k (0, 0, 0, [])).2.1 ≤ c) (h2 : c ≤ (ctT.getD k (0, 0, 0, [])).2.2.1) : nmP ((ctT.getD k (0, 0, 0, [])).1 + c - (ctT.getD k (0, 0, 0, [])).2.1) = none ∧ ctP ((ctT.getD k (0, 0, 0, [])).1 + c - (ctT.getD k (0, 0, 0, [])).2.1) = some ((ctT.getD k (0, 0, 0, [])).2.2.2, c) ∧ (ctT.getD k (0, 0, 0, [])).1 + c - (ctT.getD k (0, 0, 0, [])).2.1 < 4096 := by
  have hc : c < 32 := by have := ctT_at k hk; omega
  have h := List.all_eq_true.1 (List.all_eq_true.1 ct_all k (by simpa using hk)) c (by simpa using hc)
  have e1 : decide (c < (ctT.getD k (0, 0, 0, [])).2.1) = false := decide_eq_false (by omega)
  have e2 : decide ((ctT.getD k (0, 0, 0, [])).2.2.1 < c) = false := decide_eq_false (by omega)
  rw [e1, e2] at h
  simp only [Bool.false_or, Bool.and_eq_true, beq_iff_eq, decide_eq_true_eq] at h
  exact ⟨h.1.1, h.1.2, h.2⟩
theorem key_none (L : List UInt8) (h1 : ∀ k, k < 11 → ∀ j, j < (csT.getD k (0, [])).2.length → ¬ L = (csT.getD k (0, [])).2.getD j []) (h2 : ∀ k, k < 4 → ∀ c, (ctT.getD k (0, 0, 0, [])).2.1 ≤ c → c ≤ (ctT.getD k (0, 0, 0, [])).2.2.1 → ¬ L = (ctT.getD k (0, 0, 0, [])).2.2.2 ++ (decS c).toList) (n : Nat) : ¬ keyL n = some L := by
  unfold keyL
  intro h
  cases hn : nmP n with
  | some l =>
    rw [hn] at h
    simp only [Option.some.injEq] at h
    unfold nmP at hn
    simp only [Option.map_eq_some_iff] at hn
    obtain ⟨c, hc, he⟩ := hn
    have hm := List.mem_of_find?_eq_some hc
    have hp := List.find?_some hc
    obtain ⟨k, hk, hk2⟩ := List.getElem_of_mem hm
    have ek : csT.getD k (0, []) = c := by rw [List.getD_eq_getElem?_getD, List.getElem?_eq_getElem hk, hk2]; rfl
    unfold nmH at hp
    simp only [Bool.and_eq_true, decide_eq_true_eq] at hp
    refine h1 k hk (n - c.1) (by rw [ek]; omega) ?_
    rw [ek, he, h]
  | none =>
    rw [hn] at h
    cases hc0 : ctP n with
    | none => rw [hc0] at h; cases h
    | some p =>
      obtain ⟨l, c0⟩ := p
      rw [hc0] at h
      simp only [Option.some.injEq] at h
      unfold ctP at hc0
      simp only [Option.map_eq_some_iff, Prod.mk.injEq] at hc0
      obtain ⟨c, hc, he, he2⟩ := hc0
      have hm := List.mem_of_find?_eq_some hc
      have hp := List.find?_some hc
      obtain ⟨k, hk, hk2⟩ := List.getElem_of_mem hm
      have ek : ctT.getD k (0, 0, 0, []) = c := by rw [List.getD_eq_getElem?_getD, List.getElem?_eq_getElem hk, hk2]; rfl
      unfold ctH at hp
      simp only [Bool.and_eq_true, decide_eq_true_eq] at hp
      refine h2 k hk c0 (by rw [ek]; omega) (by rw [ek]; omega) ?_
      rw [ek, ← h, he]
/-- What a search of all names answers. -/
def Fnd (L : List UInt8) (e : Ending) : Prop := (∃ n : Nat, n < 4096 ∧ keyL n = some L ∧ e = .returned (.tuple #[.int .i64 n, .bool true])) ∨ ((∀ n, ¬ keyL n = some L) ∧ e = .returned (.tuple #[.int .i64 0, .bool false]))
set_option maxRecDepth 100000 in
set_option maxHeartbeats 4000000 in
theorem csrOf_num (s : ByteArray) (w : World) (v : Nat) (hv : v < 4096) (hc : countV s.toList = .tuple #[.int .u64 v, .bool true]) : Calls Tryd.prog 13 #[.string s] w fun e w' => e = .returned (.tuple #[.int .i64 v, .bool true]) ∧ Below w.heap.size w w' := by
  have HC : Hid (∀ w : World, Calls Tryd.prog 24 #[.string s] w fun e w' => e = .returned (.tuple #[.int .u64 v, .bool true]) ∧ Below w.heap.size w w') := fun w => hc ▸ count_c s w
  have hI : (v : Int) < 4096 := by omega
  clear hc
  go_enter Tryd.func13, Tryd.ntmps13
  go_wp2_with (first | (go_at_call 24; refine (HC.out _).mono ?_; rintro e w1 ⟨rfl, hb⟩; have HB : Hid (Below w.heap.size w w1) := hb; clear hb))
  go_ret2
  exact ⟨rfl, HB.out⟩
set_option maxRecDepth 100000 in
set_option maxHeartbeats 8000000 in
theorem csrOf_names (s : ByteArray) (w : World) (v : Nat) (b : Bool) (hc : countV s.toList = .tuple #[.int .u64 v, .bool b]) (hb0 : b = false ∨ (b = true ∧ ¬ v < 4096)) : Calls Tryd.prog 13 #[.string s] w fun e w' => Fnd s.toList e ∧ Below w.heap.size w w' := by
  have HC : Hid (∀ w : World, Calls Tryd.prog 24 #[.string s] w fun e w' => e = .returned (.tuple #[.int .u64 v, .bool b]) ∧ Below w.heap.size w w') := fun w => hc ▸ count_c s w
  have HK : Hid (∀ (Q' : Exit → Act → World → Prop), True) := fun _ => trivial
  clear hc HK
  obtain ⟨L, hL⟩ : ∃ L, L = s.toList := ⟨_, rfl⟩
  have HL : Hid (L = s.toList) := hL
  rw [← hL]
  clear hL
  have hq : (b = false) ∨ (b = true ∧ ¬ ((v : Int) < 4096)) := by rcases hb0 with h | h; exact .inl h; exact .inr ⟨h.1, by omega⟩
  clear hb0
  rcases hq with rfl | ⟨rfl, hvI⟩
  · go_enter Tryd.func13, Tryd.ntmps13
    go_wp2_with (first | (go_at_call 24; refine (HC.out _).mono ?_; rintro e w0 ⟨rfl, hb⟩; have HB0 : Hid (Below w.heap.size w w0) := hb; clear hb) | (go_at_call 18; refine (named_n _).mono ?_; rintro e w1 ⟨g, rfl, hg, hm, hb⟩; have HN : Hid (Nmd g w0.heap.size w1) := hm; have HB1 : Hid (Below w.heap.size w w1) := HB0.out.trans (hb.mono HB0.out.size); clear hg hm hb))
    go_loopw [7, 8, 9, 27] (fun _ _ _ i wr => ∃ k : Nat, k ≤ 11 ∧ i = .int .i64 k ∧ Hid (∀ k', k' < k → ∀ j, j < (csT.getD k' (0, [])).2.length → ¬ L = (csT.getD k' (0, [])).2.getD j []) ∧ Hid (Below w1.heap.size w1 wr)) (fun _ _ _ i _ => 11 - (intOf i).toNat)
    case atStart => exact ⟨0, by omega, rfl, (fun j hj => by omega), Below.refl _ _⟩
    case round =>
      obtain ⟨k, hk, rfl, hno, hb⟩ := hrel
      by_cases hlt : k < 11
      · as_aux_lemma =>
        have hltI : (k : Int) < 11 := by omega
        obtain ⟨h0, h1, h2⟩ := HN.out k hlt
        obtain ⟨q1, q2⟩ := csT_at k hlt
        have HHIT : Hid (∀ j, j < (csT.getD k (0, [])).2.length → L = (csT.getD k (0, [])).2.getD j [] → (csT.getD k (0, [])).1 + j < 4096 ∧ keyL ((csT.getD k (0, [])).1 + j) = some L) := fun j hj he => by
          obtain ⟨p1, p2⟩ := nm_hit k j hlt hj
          refine ⟨p2, ?_⟩
          unfold keyL
          rw [p1, he]
        have HNEXT : Hid ((∀ j, j < (csT.getD k (0, [])).2.length → ¬ L = (csT.getD k (0, [])).2.getD j []) → ∀ k', k' < k + 1 → ∀ j, j < (csT.getD k' (0, [])).2.length → ¬ L = (csT.getD k' (0, [])).2.getD j []) := fun h k' hk' => by
          rcases Nat.lt_or_eq_of_le (Nat.le_of_lt_succ hk') with hk' | rfl
          · exact hno.out k' hk'
          · exact h
        generalize csT.getD k (0, []) = c at h0 h1 h2 q1 q2 HHIT HNEXT
        obtain ⟨F, l⟩ := c
        simp only at h0 h1 h2 q1 q2 HHIT HNEXT
        have lt0 : g < w1.heap.size := World.block_lt_of_cell? w1 _ h0
        have e0 : wr.cell? ⟨g, k * 2, none⟩ = some (.int .i64 F) := (hb.out.cell (p := ⟨g, k * 2, none⟩) lt0).trans h0
        have e1 : wr.cell? ⟨g, k * 2 + 1, none⟩ = some (.slice (some ⟨w0.heap.size + k, 0, none⟩) l.length l.length) := (hb.out.cell (p := ⟨g, k * 2 + 1, none⟩) lt0).trans h1
        obtain ⟨W2, hW2⟩ : ∃ W2, wr.alloc (.cells #[.int .i64 F, .slice (some ⟨w0.heap.size + k, 0, none⟩) l.length l.length] 33) = W2 := ⟨_, rfl⟩
        have HB2 : Hid (Below w1.heap.size w1 W2) := by unfold Hid; rw [← hW2]; exact hb.out.trans ((below_al wr _).mono hb.out.size)
        have f0 : W2.cell? ⟨wr.heap.size, 0, none⟩ = some (.int .i64 F) := by rw [← hW2]; exact cell_of_row _ wr.heap.size 0 _ _ _ (heap_alloc_new wr _)
        have f1 : W2.cell? ⟨wr.heap.size, 1, none⟩ = some (.slice (some ⟨w0.heap.size + k, 0, none⟩) l.length l.length) := by rw [← hW2]; exact cell_of_row _ wr.heap.size 1 _ _ _ (heap_alloc_new wr _)
        have HE2 : Hid (∀ j, j < l.length → W2.cell? ⟨w0.heap.size + k, j, none⟩ = some (.string (bs (l.getD j [])))) := fun j hj => by
          have lt1 : w0.heap.size + k < w1.heap.size := World.block_lt_of_cell? w1 _ (h2 j hj)
          exact (HB2.out.cell (p := ⟨w0.heap.size + k, j, none⟩) lt1).trans (h2 j hj)
        clear h0 h1 h2 lt0
        obtain ⟨Ln, hLn⟩ : ∃ Ln, Ln = l.length := ⟨_, rfl⟩
        have HLn : Hid (Ln = l.length) := hLn
        rw [← hLn] at e1 f1 hW2 q2 HHIT HNEXT HE2
        clear hLn
        have hF : (F : Int) ≤ 4096 := by omega
        have hLb : (Ln : Int) ≤ 5 := by omega
        go_upto_region 7 with fail
        clear hW2 e0 e1
        generalize wr.heap.size = s2 at f0 f1 ⊢
        go_wp2
        go_loopw [8, 9, 34] (fun _ _ i wx => ∃ j : Nat, j ≤ Ln ∧ i = .int .i64 j ∧ Hid (∀ j', j' < j → ¬ L = l.getD j' []) ∧ wx = W2) (fun _ _ i _ => Ln - (intOf i).toNat)
        case atStart => exact ⟨0, by omega, rfl, (fun j hj => by omega), rfl⟩
        case round =>
          obtain ⟨j, hj, rfl, hno2, hwr⟩ := hrel
          subst hwr
          by_cases hjl : j < Ln
          · have hjI : (j : Int) < Ln := by omega
            have hcell := HE2.out j hjl
            have hjb : (j : Int) ≤ 5 := by omega
            by_cases hq : L = l.getD j []
            · have hcmp : (s.toList == (bs (l.getD j [])).toList) = true := by rw [bs_toList, ← HL.out, hq, beq_self_eq_true]
              have HF : Hid (F + j < 4096 ∧ keyL (F + j) = some L) := HHIT.out j hjl hq
              generalize bs (l.getD j []) = nmx at hcell hcmp
              clear hq
              go_wp2
              go_ret2
              refine ⟨.inl ⟨F + j, HF.out.1, HF.out.2, ?_⟩, HB1.out.trans (HB2.out.mono HB1.out.size)⟩
              first | rfl | simp
            · have hcmp : (s.toList == (bs (l.getD j [])).toList) = false := by rw [bs_toList, ← HL.out, beq_eq_false_iff_ne]; exact hq
              have HN2 : Hid (∀ j', j' < j + 1 → ¬ L = l.getD j' []) := fun j' hj' => by
                rcases Nat.lt_or_eq_of_le (Nat.le_of_lt_succ hj') with hj' | rfl
                · exact hno2.out j' hj'
                · exact hq
              generalize bs (l.getD j []) = nmx at hcell hcmp
              clear hq
              go_wp2
              go_roundw
              · exact ⟨j + 1, by omega, by simp, HN2.out, by trivial⟩
              · simp only [intOf]; omega
          · have hjI : ¬ ((j : Int) < Ln) := by omega
            have HN3 : Hid (∀ j', j' < Ln → ¬ L = l.getD j' []) := fun j' hj' => hno2.out j' (by omega)
            clear hno2
            go_wp2
            go_roundw
            · exact ⟨k + 1, by omega, by simp, HNEXT.out HN3.out, HB2.out⟩
            · simp only [intOf]; omega
      · obtain rfl : k = 11 := by omega
        rw [show ((11 : Nat) : Int) = (11 : Int) from rfl]
        have HNO : Hid (∀ k', k' < 11 → ∀ j, j < (csT.getD k' (0, [])).2.length → ¬ L = (csT.getD k' (0, [])).2.getD j []) := hno.out
        have HBr : Hid (Below w.heap.size w wr) := HB1.out.trans (hb.out.mono HB1.out.size)
        clear hb hno HN HB1
        --@CUT5
        go_wp2_with (first | (go_at_call 19; refine (cnt_n _).mono ?_; rintro e w3 ⟨g2, rfl, hg, hm, hb⟩; have HCt : Hid (Ctd g2 w3) := hm; have HB3 : Hid (Below w.heap.size w w3) := HBr.out.trans (hb.mono HBr.out.size); clear hg hm hb))
        go_loopw [11, 12, 50] (fun _ _ i wr => ∃ k : Nat, k ≤ 4 ∧ i = .int .i64 k ∧ Hid (∀ k', k' < k → ∀ c, (ctT.getD k' (0, 0, 0, [])).2.1 ≤ c → c ≤ (ctT.getD k' (0, 0, 0, [])).2.2.1 → ¬ L = (ctT.getD k' (0, 0, 0, [])).2.2.2 ++ (decS c).toList) ∧ Hid (Below w3.heap.size w3 wr)) (fun _ _ i _ => 4 - (intOf i).toNat)
        case atStart => exact ⟨0, by omega, rfl, (fun j hj => by omega), Below.refl _ _⟩
        case round =>
          obtain ⟨k, hk, rfl, hno, hb⟩ := hrel
          by_cases hlt : k < 4
          · as_aux_lemma =>
            have hltI : (k : Int) < 4 := by omega
            obtain ⟨h0, h1, h2, h3⟩ := HCt.out k hlt
            obtain ⟨q1, q2, q3, q4⟩ := ctT_at k hlt
            have HHIT : Hid (∀ c, (ctT.getD k (0, 0, 0, [])).2.1 ≤ c → c ≤ (ctT.getD k (0, 0, 0, [])).2.2.1 → L = (ctT.getD k (0, 0, 0, [])).2.2.2 ++ (decS c).toList → (ctT.getD k (0, 0, 0, [])).1 + c - (ctT.getD k (0, 0, 0, [])).2.1 < 4096 ∧ keyL ((ctT.getD k (0, 0, 0, [])).1 + c - (ctT.getD k (0, 0, 0, [])).2.1) = some L) := fun c t1 t2 he => by
              obtain ⟨p1, p2, p3⟩ := ct_hit k c hlt t1 t2
              refine ⟨p3, ?_⟩
              unfold keyL
              rw [p1, p2, he]
            have HNEXT : Hid ((∀ c, (ctT.getD k (0, 0, 0, [])).2.1 ≤ c → c ≤ (ctT.getD k (0, 0, 0, [])).2.2.1 → ¬ L = (ctT.getD k (0, 0, 0, [])).2.2.2 ++ (decS c).toList) → ∀ k', k' < k + 1 → ∀ c, (ctT.getD k' (0, 0, 0, [])).2.1 ≤ c → c ≤ (ctT.getD k' (0, 0, 0, [])).2.2.1 → ¬ L = (ctT.getD k' (0, 0, 0, [])).2.2.2 ++ (decS c).toList) := fun h k' hk' => by
              rcases Nat.lt_or_eq_of_le (Nat.le_of_lt_succ hk') with hk' | rfl
              · exact hno.out k' hk'
              · exact h
            generalize ctT.getD k (0, 0, 0, []) = c at h0 h1 h2 h3 q1 q2 q3 q4 HHIT HNEXT
            obtain ⟨F, lo, hi, l⟩ := c
            simp only at h0 h1 h2 h3 q1 q2 q3 q4 HHIT HNEXT
            have lt0 : g2 < w3.heap.size := World.block_lt_of_cell? w3 _ h0
            have e0 : wr.cell? ⟨g2, k * 4, none⟩ = some (.int .i64 F) := (hb.out.cell (p := ⟨g2, k * 4, none⟩) lt0).trans h0
            have e1 : wr.cell? ⟨g2, k * 4 + 1, none⟩ = some (.int .i64 lo) := (hb.out.cell (p := ⟨g2, k * 4 + 1, none⟩) lt0).trans h1
            have e2 : wr.cell? ⟨g2, k * 4 + 2, none⟩ = some (.int .i64 hi) := (hb.out.cell (p := ⟨g2, k * 4 + 2, none⟩) lt0).trans h2
            have e3 : wr.cell? ⟨g2, k * 4 + 3, none⟩ = some (.string (bs l)) := (hb.out.cell (p := ⟨g2, k * 4 + 3, none⟩) lt0).trans h3
            have hsl : (bs l).size ≤ 100 := by show l.toArray.size ≤ 100; simp; omega
            have HBL : Hid (∀ c, (bs l ++ decS c).toList = l ++ (decS c).toList) := fun c => by rw [app_toList, bs_toList]
            clear h0 h1 h2 h3 lt0
            obtain ⟨W2, hW2⟩ : ∃ W2, wr.alloc (.cells #[.int .i64 F, .int .i64 lo, .int .i64 hi, .string (bs l)] 37) = W2 := ⟨_, rfl⟩
            have HB2 : Hid (Below w3.heap.size w3 W2) := by unfold Hid; rw [← hW2]; exact hb.out.trans ((below_al wr _).mono hb.out.size)
            have KR : Hid (W2.heap[wr.heap.size]? = some (.cells #[.int .i64 F, .int .i64 lo, .int .i64 hi, .string (bs l)] 37 (0, 0))) := by unfold Hid; rw [← hW2]; exact heap_alloc_new wr _
            have HNC : Hid (∀ (c : Nat), c < 100 → ∀ w : World, Calls Tryd.prog 20 #[.agg #[.int .i64 F, .int .i64 lo, .int .i64 hi, .string (bs l)], .int .i64 c] w fun e w' => e = .returned (.string (bs l ++ decS c)) ∧ Below w.heap.size w w') := fun c hc => name_c F lo hi (bs l) c hc hsl
            generalize bs l = sl at e3 hW2 KR HNC HBL
            have HCS : Hid (∀ wx, Below W2.heap.size W2 wx → wx.cell? ⟨wr.heap.size, 0, none⟩ = some (.int .i64 F) ∧ wx.cell? ⟨wr.heap.size, 1, none⟩ = some (.int .i64 lo) ∧ wx.cell? ⟨wr.heap.size, 2, none⟩ = some (.int .i64 hi) ∧ wx.cell? ⟨wr.heap.size, 3, none⟩ = some (.string sl)) := fun wx h => by
              have r := (h.block _ (Array.getElem?_eq_some_iff.1 KR.out).1).trans KR.out
              exact ⟨cell_of_row wx _ 0 _ _ _ r, cell_of_row wx _ 1 _ _ _ r, cell_of_row wx _ 2 _ _ _ r, cell_of_row wx _ 3 _ _ _ r⟩
            have hFb : (F : Int) ≤ 4096 := by omega
            have hlob : (lo : Int) ≤ 3 := by omega
            have hhib : (hi : Int) ≤ 31 := by omega
            have HLH : Hid (lo ≤ 3 ∧ hi ≤ 31) := ⟨q2, q3⟩
            clear hsl q1 q2 q3 q4
            obtain ⟨f0, f1, f2, f3⟩ := HCS.out W2 (Below.refl _ _)
            go_upto_region 17 with fail
            clear hW2 e0 e1 e2 e3
            generalize wr.heap.size = s2 at f0 f1 f2 f3 HCS KR ⊢
            go_wp2
            go_loopw [12] (fun i wx => ∃ c : Nat, lo ≤ c ∧ c ≤ max lo (hi + 1) ∧ i = .int .i64 c ∧ Hid (∀ c', lo ≤ c' → c' < c → ¬ L = l ++ (decS c').toList) ∧ Hid (Below W2.heap.size W2 wx)) (fun i _ => (hi + 1) - (intOf i).toNat)
            case atStart => exact ⟨lo, by omega, by omega, rfl, (fun c h1 h2 => by omega), Below.refl _ _⟩
            case round =>
              obtain ⟨c, hc1, hc2, rfl, hno2, hbx⟩ := hrel
              clear f0 f1 f2 f3
              obtain ⟨f0, f1, f2, f3⟩ := HCS.out wr hbx.out
              have hcb : (c : Int) ≤ 33 := by have := HLH.out; omega
              by_cases hch : c ≤ hi
              · have hcI : (c : Int) ≤ hi := by omega
                have HNC1 : Hid (∀ w : World, Calls Tryd.prog 20 #[.agg #[.int .i64 F, .int .i64 lo, .int .i64 hi, .string sl], .int .i64 c] w fun e w' => e = .returned (.string (sl ++ decS c)) ∧ Below w.heap.size w w') := HNC.out c (by have := HLH.out; omega)
                have HBW : Hid (∀ w5, Below wr.heap.size wr w5 → Below W2.heap.size W2 w5) := fun w5 h => hbx.out.trans (h.mono hbx.out.size)
                by_cases hq : L = l ++ (decS c).toList
                · have hcmp : (s.toList == (sl ++ decS c).toList) = true := by rw [HBL.out c, ← HL.out, hq, beq_self_eq_true]
                  obtain ⟨HF1, HF2⟩ := HHIT.out c hc1 hch hq
                  obtain ⟨N, hN⟩ : ∃ N : Nat, N = F + c - lo := ⟨_, rfl⟩
                  have hN1 : (F : Int) + c - lo = (N : Int) := by omega
                  have HFF : Hid (N < 4096 ∧ keyL N = some L) := by rw [hN]; exact ⟨HF1, HF2⟩
                  generalize sl ++ decS c = res at HNC1 hcmp
                  clear hq HF1 HF2 hN hch hc1 hc2 hno2
                  go_wp2_with (first | (go_at_call 20; refine (HNC1.out _).mono ?_; rintro e w5 ⟨rfl, hb5⟩; have HB5 : Hid (Below W2.heap.size W2 w5) := HBW.out w5 hb5; clear f0 f1 f2 f3; obtain ⟨f0, f1, f2, f3⟩ := HCS.out w5 HB5.out; clear hb5))
                  go_ret2
                  refine ⟨.inl ⟨N, HFF.out.1, HFF.out.2, ?_⟩, HB3.out.trans ((HB2.out.trans (HB5.out.mono HB2.out.size)).mono HB3.out.size)⟩
                  first | rfl | simp
                · have hcmp : (s.toList == (sl ++ decS c).toList) = false := by rw [HBL.out c, ← HL.out, beq_eq_false_iff_ne]; exact hq
                  have HN2 : Hid (∀ c', lo ≤ c' → c' < c + 1 → ¬ L = l ++ (decS c').toList) := fun c' t1 t2 => by
                    rcases Nat.lt_or_eq_of_le (Nat.le_of_lt_succ t2) with t2 | rfl
                    · exact hno2.out c' t1 t2
                    · exact hq
                  generalize sl ++ decS c = res at HNC1 hcmp
                  clear hq hno2
                  go_wp2_with (first | (go_at_call 20; refine (HNC1.out _).mono ?_; rintro e w5 ⟨rfl, hb5⟩; have HB5 : Hid (Below W2.heap.size W2 w5) := HBW.out w5 hb5; clear f0 f1 f2 f3; obtain ⟨f0, f1, f2, f3⟩ := HCS.out w5 HB5.out; clear hb5))
                  go_roundw
                  · exact ⟨c + 1, by omega, by omega, by simp, HN2.out, HB5.out⟩
                  · simp only [intOf]; omega
              · have hcI : ¬ ((c : Int) ≤ hi) := by omega
                have HN3 : Hid (∀ c', lo ≤ c' → c' ≤ hi → ¬ L = l ++ (decS c').toList) := fun c' t1 t2 => hno2.out c' t1 (by omega)
                have HBX : Hid (Below w3.heap.size w3 wr) := HB2.out.trans (hbx.out.mono HB2.out.size)
                clear hno2
                go_wp2
                go_roundw
                · exact ⟨k + 1, by omega, by simp, HNEXT.out HN3.out, HBX.out⟩
                · simp only [intOf]; omega
          · obtain rfl : k = 4 := by omega
            rw [show ((4 : Nat) : Int) = (4 : Int) from rfl]
            have HKN : Hid (∀ n, ¬ keyL n = some L) := key_none L HNO.out hno.out
            have HBx : Hid (Below w.heap.size w wr) := HB3.out.trans (hb.out.mono HB3.out.size)
            clear hb hno HCt HB3
            go_wp2
            go_ret2
            exact ⟨.inr ⟨HKN.out, rfl⟩, HBx.out⟩
  · go_enter Tryd.func13, Tryd.ntmps13
    go_wp2_with (first | (go_at_call 24; refine (HC.out _).mono ?_; rintro e w0 ⟨rfl, hb⟩; have HB0 : Hid (Below w.heap.size w w0) := hb; clear hb) | (go_at_call 18; refine (named_n _).mono ?_; rintro e w1 ⟨g, rfl, hg, hm, hb⟩; have HN : Hid (Nmd g w0.heap.size w1) := hm; have HB1 : Hid (Below w.heap.size w w1) := HB0.out.trans (hb.mono HB0.out.size); clear hg hm hb))
    go_loopw [7, 8, 9, 27] (fun _ _ _ i wr => ∃ k : Nat, k ≤ 11 ∧ i = .int .i64 k ∧ Hid (∀ k', k' < k → ∀ j, j < (csT.getD k' (0, [])).2.length → ¬ L = (csT.getD k' (0, [])).2.getD j []) ∧ Hid (Below w1.heap.size w1 wr)) (fun _ _ _ i _ => 11 - (intOf i).toNat)
    case atStart => exact ⟨0, by omega, rfl, (fun j hj => by omega), Below.refl _ _⟩
    case round =>
      obtain ⟨k, hk, rfl, hno, hb⟩ := hrel
      by_cases hlt : k < 11
      · as_aux_lemma =>
        have hltI : (k : Int) < 11 := by omega
        obtain ⟨h0, h1, h2⟩ := HN.out k hlt
        obtain ⟨q1, q2⟩ := csT_at k hlt
        have HHIT : Hid (∀ j, j < (csT.getD k (0, [])).2.length → L = (csT.getD k (0, [])).2.getD j [] → (csT.getD k (0, [])).1 + j < 4096 ∧ keyL ((csT.getD k (0, [])).1 + j) = some L) := fun j hj he => by
          obtain ⟨p1, p2⟩ := nm_hit k j hlt hj
          refine ⟨p2, ?_⟩
          unfold keyL
          rw [p1, he]
        have HNEXT : Hid ((∀ j, j < (csT.getD k (0, [])).2.length → ¬ L = (csT.getD k (0, [])).2.getD j []) → ∀ k', k' < k + 1 → ∀ j, j < (csT.getD k' (0, [])).2.length → ¬ L = (csT.getD k' (0, [])).2.getD j []) := fun h k' hk' => by
          rcases Nat.lt_or_eq_of_le (Nat.le_of_lt_succ hk') with hk' | rfl
          · exact hno.out k' hk'
          · exact h
        generalize csT.getD k (0, []) = c at h0 h1 h2 q1 q2 HHIT HNEXT
        obtain ⟨F, l⟩ := c
        simp only at h0 h1 h2 q1 q2 HHIT HNEXT
        have lt0 : g < w1.heap.size := World.block_lt_of_cell? w1 _ h0
        have e0 : wr.cell? ⟨g, k * 2, none⟩ = some (.int .i64 F) := (hb.out.cell (p := ⟨g, k * 2, none⟩) lt0).trans h0
        have e1 : wr.cell? ⟨g, k * 2 + 1, none⟩ = some (.slice (some ⟨w0.heap.size + k, 0, none⟩) l.length l.length) := (hb.out.cell (p := ⟨g, k * 2 + 1, none⟩) lt0).trans h1
        obtain ⟨W2, hW2⟩ : ∃ W2, wr.alloc (.cells #[.int .i64 F, .slice (some ⟨w0.heap.size + k, 0, none⟩) l.length l.length] 33) = W2 := ⟨_, rfl⟩
        have HB2 : Hid (Below w1.heap.size w1 W2) := by unfold Hid; rw [← hW2]; exact hb.out.trans ((below_al wr _).mono hb.out.size)
        have f0 : W2.cell? ⟨wr.heap.size, 0, none⟩ = some (.int .i64 F) := by rw [← hW2]; exact cell_of_row _ wr.heap.size 0 _ _ _ (heap_alloc_new wr _)
        have f1 : W2.cell? ⟨wr.heap.size, 1, none⟩ = some (.slice (some ⟨w0.heap.size + k, 0, none⟩) l.length l.length) := by rw [← hW2]; exact cell_of_row _ wr.heap.size 1 _ _ _ (heap_alloc_new wr _)
        have HE2 : Hid (∀ j, j < l.length → W2.cell? ⟨w0.heap.size + k, j, none⟩ = some (.string (bs (l.getD j [])))) := fun j hj => by
          have lt1 : w0.heap.size + k < w1.heap.size := World.block_lt_of_cell? w1 _ (h2 j hj)
          exact (HB2.out.cell (p := ⟨w0.heap.size + k, j, none⟩) lt1).trans (h2 j hj)
        clear h0 h1 h2 lt0
        obtain ⟨Ln, hLn⟩ : ∃ Ln, Ln = l.length := ⟨_, rfl⟩
        have HLn : Hid (Ln = l.length) := hLn
        rw [← hLn] at e1 f1 hW2 q2 HHIT HNEXT HE2
        clear hLn
        have hF : (F : Int) ≤ 4096 := by omega
        have hLb : (Ln : Int) ≤ 5 := by omega
        go_upto_region 7 with fail
        clear hW2 e0 e1
        generalize wr.heap.size = s2 at f0 f1 ⊢
        go_wp2
        go_loopw [8, 9, 34] (fun _ _ i wx => ∃ j : Nat, j ≤ Ln ∧ i = .int .i64 j ∧ Hid (∀ j', j' < j → ¬ L = l.getD j' []) ∧ wx = W2) (fun _ _ i _ => Ln - (intOf i).toNat)
        case atStart => exact ⟨0, by omega, rfl, (fun j hj => by omega), rfl⟩
        case round =>
          obtain ⟨j, hj, rfl, hno2, hwr⟩ := hrel
          subst hwr
          by_cases hjl : j < Ln
          · have hjI : (j : Int) < Ln := by omega
            have hcell := HE2.out j hjl
            have hjb : (j : Int) ≤ 5 := by omega
            by_cases hq : L = l.getD j []
            · have hcmp : (s.toList == (bs (l.getD j [])).toList) = true := by rw [bs_toList, ← HL.out, hq, beq_self_eq_true]
              have HF : Hid (F + j < 4096 ∧ keyL (F + j) = some L) := HHIT.out j hjl hq
              generalize bs (l.getD j []) = nmx at hcell hcmp
              clear hq
              go_wp2
              go_ret2
              refine ⟨.inl ⟨F + j, HF.out.1, HF.out.2, ?_⟩, HB1.out.trans (HB2.out.mono HB1.out.size)⟩
              first | rfl | simp
            · have hcmp : (s.toList == (bs (l.getD j [])).toList) = false := by rw [bs_toList, ← HL.out, beq_eq_false_iff_ne]; exact hq
              have HN2 : Hid (∀ j', j' < j + 1 → ¬ L = l.getD j' []) := fun j' hj' => by
                rcases Nat.lt_or_eq_of_le (Nat.le_of_lt_succ hj') with hj' | rfl
                · exact hno2.out j' hj'
                · exact hq
              generalize bs (l.getD j []) = nmx at hcell hcmp
              clear hq
              go_wp2
              go_roundw
              · exact ⟨j + 1, by omega, by simp, HN2.out, by trivial⟩
              · simp only [intOf]; omega
          · have hjI : ¬ ((j : Int) < Ln) := by omega
            have HN3 : Hid (∀ j', j' < Ln → ¬ L = l.getD j' []) := fun j' hj' => hno2.out j' (by omega)
            clear hno2
            go_wp2
            go_roundw
            · exact ⟨k + 1, by omega, by simp, HNEXT.out HN3.out, HB2.out⟩
            · simp only [intOf]; omega
      · obtain rfl : k = 11 := by omega
        rw [show ((11 : Nat) : Int) = (11 : Int) from rfl]
        have HNO : Hid (∀ k', k' < 11 → ∀ j, j < (csT.getD k' (0, [])).2.length → ¬ L = (csT.getD k' (0, [])).2.getD j []) := hno.out
        have HBr : Hid (Below w.heap.size w wr) := HB1.out.trans (hb.out.mono HB1.out.size)
        clear hb hno HN HB1
        --@CUT5
        go_wp2_with (first | (go_at_call 19; refine (cnt_n _).mono ?_; rintro e w3 ⟨g2, rfl, hg, hm, hb⟩; have HCt : Hid (Ctd g2 w3) := hm; have HB3 : Hid (Below w.heap.size w w3) := HBr.out.trans (hb.mono HBr.out.size); clear hg hm hb))
        go_loopw [11, 12, 50] (fun _ _ i wr => ∃ k : Nat, k ≤ 4 ∧ i = .int .i64 k ∧ Hid (∀ k', k' < k → ∀ c, (ctT.getD k' (0, 0, 0, [])).2.1 ≤ c → c ≤ (ctT.getD k' (0, 0, 0, [])).2.2.1 → ¬ L = (ctT.getD k' (0, 0, 0, [])).2.2.2 ++ (decS c).toList) ∧ Hid (Below w3.heap.size w3 wr)) (fun _ _ i _ => 4 - (intOf i).toNat)
        case atStart => exact ⟨0, by omega, rfl, (fun j hj => by omega), Below.refl _ _⟩
        case round =>
          obtain ⟨k, hk, rfl, hno, hb⟩ := hrel
          by_cases hlt : k < 4
          · as_aux_lemma =>
            have hltI : (k : Int) < 4 := by omega
            obtain ⟨h0, h1, h2, h3⟩ := HCt.out k hlt
            obtain ⟨q1, q2, q3, q4⟩ := ctT_at k hlt
            have HHIT : Hid (∀ c, (ctT.getD k (0, 0, 0, [])).2.1 ≤ c → c ≤ (ctT.getD k (0, 0, 0, [])).2.2.1 → L = (ctT.getD k (0, 0, 0, [])).2.2.2 ++ (decS c).toList → (ctT.getD k (0, 0, 0, [])).1 + c - (ctT.getD k (0, 0, 0, [])).2.1 < 4096 ∧ keyL ((ctT.getD k (0, 0, 0, [])).1 + c - (ctT.getD k (0, 0, 0, [])).2.1) = some L) := fun c t1 t2 he => by
              obtain ⟨p1, p2, p3⟩ := ct_hit k c hlt t1 t2
              refine ⟨p3, ?_⟩
              unfold keyL
              rw [p1, p2, he]
            have HNEXT : Hid ((∀ c, (ctT.getD k (0, 0, 0, [])).2.1 ≤ c → c ≤ (ctT.getD k (0, 0, 0, [])).2.2.1 → ¬ L = (ctT.getD k (0, 0, 0, [])).2.2.2 ++ (decS c).toList) → ∀ k', k' < k + 1 → ∀ c, (ctT.getD k' (0, 0, 0, [])).2.1 ≤ c → c ≤ (ctT.getD k' (0, 0, 0, [])).2.2.1 → ¬ L = (ctT.getD k' (0, 0, 0, [])).2.2.2 ++ (decS c).toList) := fun h k' hk' => by
              rcases Nat.lt_or_eq_of_le (Nat.le_of_lt_succ hk') with hk' | rfl
              · exact hno.out k' hk'
              · exact h
            generalize ctT.getD k (0, 0, 0, []) = c at h0 h1 h2 h3 q1 q2 q3 q4 HHIT HNEXT
            obtain ⟨F, lo, hi, l⟩ := c
            simp only at h0 h1 h2 h3 q1 q2 q3 q4 HHIT HNEXT
            have lt0 : g2 < w3.heap.size := World.block_lt_of_cell? w3 _ h0
            have e0 : wr.cell? ⟨g2, k * 4, none⟩ = some (.int .i64 F) := (hb.out.cell (p := ⟨g2, k * 4, none⟩) lt0).trans h0
            have e1 : wr.cell? ⟨g2, k * 4 + 1, none⟩ = some (.int .i64 lo) := (hb.out.cell (p := ⟨g2, k * 4 + 1, none⟩) lt0).trans h1
            have e2 : wr.cell? ⟨g2, k * 4 + 2, none⟩ = some (.int .i64 hi) := (hb.out.cell (p := ⟨g2, k * 4 + 2, none⟩) lt0).trans h2
            have e3 : wr.cell? ⟨g2, k * 4 + 3, none⟩ = some (.string (bs l)) := (hb.out.cell (p := ⟨g2, k * 4 + 3, none⟩) lt0).trans h3
            have hsl : (bs l).size ≤ 100 := by show l.toArray.size ≤ 100; simp; omega
            have HBL : Hid (∀ c, (bs l ++ decS c).toList = l ++ (decS c).toList) := fun c => by rw [app_toList, bs_toList]
            clear h0 h1 h2 h3 lt0
            obtain ⟨W2, hW2⟩ : ∃ W2, wr.alloc (.cells #[.int .i64 F, .int .i64 lo, .int .i64 hi, .string (bs l)] 37) = W2 := ⟨_, rfl⟩
            have HB2 : Hid (Below w3.heap.size w3 W2) := by unfold Hid; rw [← hW2]; exact hb.out.trans ((below_al wr _).mono hb.out.size)
            have KR : Hid (W2.heap[wr.heap.size]? = some (.cells #[.int .i64 F, .int .i64 lo, .int .i64 hi, .string (bs l)] 37 (0, 0))) := by unfold Hid; rw [← hW2]; exact heap_alloc_new wr _
            have HNC : Hid (∀ (c : Nat), c < 100 → ∀ w : World, Calls Tryd.prog 20 #[.agg #[.int .i64 F, .int .i64 lo, .int .i64 hi, .string (bs l)], .int .i64 c] w fun e w' => e = .returned (.string (bs l ++ decS c)) ∧ Below w.heap.size w w') := fun c hc => name_c F lo hi (bs l) c hc hsl
            generalize bs l = sl at e3 hW2 KR HNC HBL
            have HCS : Hid (∀ wx, Below W2.heap.size W2 wx → wx.cell? ⟨wr.heap.size, 0, none⟩ = some (.int .i64 F) ∧ wx.cell? ⟨wr.heap.size, 1, none⟩ = some (.int .i64 lo) ∧ wx.cell? ⟨wr.heap.size, 2, none⟩ = some (.int .i64 hi) ∧ wx.cell? ⟨wr.heap.size, 3, none⟩ = some (.string sl)) := fun wx h => by
              have r := (h.block _ (Array.getElem?_eq_some_iff.1 KR.out).1).trans KR.out
              exact ⟨cell_of_row wx _ 0 _ _ _ r, cell_of_row wx _ 1 _ _ _ r, cell_of_row wx _ 2 _ _ _ r, cell_of_row wx _ 3 _ _ _ r⟩
            have hFb : (F : Int) ≤ 4096 := by omega
            have hlob : (lo : Int) ≤ 3 := by omega
            have hhib : (hi : Int) ≤ 31 := by omega
            have HLH : Hid (lo ≤ 3 ∧ hi ≤ 31) := ⟨q2, q3⟩
            clear hsl q1 q2 q3 q4
            obtain ⟨f0, f1, f2, f3⟩ := HCS.out W2 (Below.refl _ _)
            go_upto_region 17 with fail
            clear hW2 e0 e1 e2 e3
            generalize wr.heap.size = s2 at f0 f1 f2 f3 HCS KR ⊢
            go_wp2
            go_loopw [12] (fun i wx => ∃ c : Nat, lo ≤ c ∧ c ≤ max lo (hi + 1) ∧ i = .int .i64 c ∧ Hid (∀ c', lo ≤ c' → c' < c → ¬ L = l ++ (decS c').toList) ∧ Hid (Below W2.heap.size W2 wx)) (fun i _ => (hi + 1) - (intOf i).toNat)
            case atStart => exact ⟨lo, by omega, by omega, rfl, (fun c h1 h2 => by omega), Below.refl _ _⟩
            case round =>
              obtain ⟨c, hc1, hc2, rfl, hno2, hbx⟩ := hrel
              clear f0 f1 f2 f3
              obtain ⟨f0, f1, f2, f3⟩ := HCS.out wr hbx.out
              have hcb : (c : Int) ≤ 33 := by have := HLH.out; omega
              by_cases hch : c ≤ hi
              · have hcI : (c : Int) ≤ hi := by omega
                have HNC1 : Hid (∀ w : World, Calls Tryd.prog 20 #[.agg #[.int .i64 F, .int .i64 lo, .int .i64 hi, .string sl], .int .i64 c] w fun e w' => e = .returned (.string (sl ++ decS c)) ∧ Below w.heap.size w w') := HNC.out c (by have := HLH.out; omega)
                have HBW : Hid (∀ w5, Below wr.heap.size wr w5 → Below W2.heap.size W2 w5) := fun w5 h => hbx.out.trans (h.mono hbx.out.size)
                by_cases hq : L = l ++ (decS c).toList
                · have hcmp : (s.toList == (sl ++ decS c).toList) = true := by rw [HBL.out c, ← HL.out, hq, beq_self_eq_true]
                  obtain ⟨HF1, HF2⟩ := HHIT.out c hc1 hch hq
                  obtain ⟨N, hN⟩ : ∃ N : Nat, N = F + c - lo := ⟨_, rfl⟩
                  have hN1 : (F : Int) + c - lo = (N : Int) := by omega
                  have HFF : Hid (N < 4096 ∧ keyL N = some L) := by rw [hN]; exact ⟨HF1, HF2⟩
                  generalize sl ++ decS c = res at HNC1 hcmp
                  clear hq HF1 HF2 hN hch hc1 hc2 hno2
                  go_wp2_with (first | (go_at_call 20; refine (HNC1.out _).mono ?_; rintro e w5 ⟨rfl, hb5⟩; have HB5 : Hid (Below W2.heap.size W2 w5) := HBW.out w5 hb5; clear f0 f1 f2 f3; obtain ⟨f0, f1, f2, f3⟩ := HCS.out w5 HB5.out; clear hb5))
                  go_ret2
                  refine ⟨.inl ⟨N, HFF.out.1, HFF.out.2, ?_⟩, HB3.out.trans ((HB2.out.trans (HB5.out.mono HB2.out.size)).mono HB3.out.size)⟩
                  first | rfl | simp
                · have hcmp : (s.toList == (sl ++ decS c).toList) = false := by rw [HBL.out c, ← HL.out, beq_eq_false_iff_ne]; exact hq
                  have HN2 : Hid (∀ c', lo ≤ c' → c' < c + 1 → ¬ L = l ++ (decS c').toList) := fun c' t1 t2 => by
                    rcases Nat.lt_or_eq_of_le (Nat.le_of_lt_succ t2) with t2 | rfl
                    · exact hno2.out c' t1 t2
                    · exact hq
                  generalize sl ++ decS c = res at HNC1 hcmp
                  clear hq hno2
                  go_wp2_with (first | (go_at_call 20; refine (HNC1.out _).mono ?_; rintro e w5 ⟨rfl, hb5⟩; have HB5 : Hid (Below W2.heap.size W2 w5) := HBW.out w5 hb5; clear f0 f1 f2 f3; obtain ⟨f0, f1, f2, f3⟩ := HCS.out w5 HB5.out; clear hb5))
                  go_roundw
                  · exact ⟨c + 1, by omega, by omega, by simp, HN2.out, HB5.out⟩
                  · simp only [intOf]; omega
              · have hcI : ¬ ((c : Int) ≤ hi) := by omega
                have HN3 : Hid (∀ c', lo ≤ c' → c' ≤ hi → ¬ L = l ++ (decS c').toList) := fun c' t1 t2 => hno2.out c' t1 (by omega)
                have HBX : Hid (Below w3.heap.size w3 wr) := HB2.out.trans (hbx.out.mono HB2.out.size)
                clear hno2
                go_wp2
                go_roundw
                · exact ⟨k + 1, by omega, by simp, HNEXT.out HN3.out, HBX.out⟩
                · simp only [intOf]; omega
          · obtain rfl : k = 4 := by omega
            rw [show ((4 : Nat) : Int) = (4 : Int) from rfl]
            have HKN : Hid (∀ n, ¬ keyL n = some L) := key_none L HNO.out hno.out
            have HBx : Hid (Below w.heap.size w wr) := HB3.out.trans (hb.out.mono HB3.out.size)
            clear hb hno HCt HB3
            go_wp2
            go_ret2
            exact ⟨.inr ⟨HKN.out, rfl⟩, HBx.out⟩
end Go.Proofs.YtechkhlibdkmpaaDoor
