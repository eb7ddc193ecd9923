/-
  The law's own 'alone'.
-/
import Derived.Test.YtjdlbkjkooeceabMf
namespace Go.Proofs.Ytjdlbkjkooeceab
set_option linter.unusedVariables false
open Go.ChangeShapes Go.WideShapes Go.ChangeAt Go.RowKit
/-- The four blocks. -/
def Four (G : Nat → Nat) (k : Nat) : Prop := ∃ i, i < 4 ∧ k = G i
/-- Behind the first walk: the rows below i are full of their marks. -/
structure P1 (G : Nat → Nat) (n i : Nat) (w wr : World) : Prop where
  exc : Exc (Four G) w wr
  size : wr.heap.size = w.heap.size
  rows : ∀ q, q < 4 → Row wr (G q) n 0 0
  full : ∀ q, q < i → Row wr (G q) n n ((q : Int) + 1)
structure P2 (G : Nat → Nat) (n i j : Nat) (w wr : World) : Prop where
  exc : Exc (fun k => k = G i) w wr
  size : wr.heap.size = w.heap.size
  row : Row wr (G i) n j ((i : Int) + 1)
theorem P2.next {G : Nat → Nat} {n i : Nat} {w wr wr2 : World} (hd : ∀ i j, i < 4 → j < 4 → G i = G j → i = j) (hi : i < 4) (h : P1 G n i w wr) (k : P2 G n i n wr wr2) : P1 G n (i + 1) w wr2 := by
  refine ⟨h.exc.trans (k.exc.mono (fun x hx => ⟨i, hi, hx⟩)), k.size.trans h.size, fun q hq => ?_, fun q hq => ?_⟩
  · by_cases e : q = i
    · subst e; exact k.row.start
    · exact (h.rows q hq).keep k.exc (fun e' => e (hd q i hq hi e'))
  · by_cases e : q = i
    · subst e; exact k.row
    · exact (h.full q (by omega)).keep k.exc (fun e' => e (hd q i (by omega) hi e'))

/-- Behind the second walk: i lists, each grown by 64 marks of its own. -/
structure P3 (n i : Nat) (V : Nat → Value) (more : Value) (w wr : World) : Prop where
  below : Below w.heap.size w wr
  own : wr.ownsRow w.heap.size 22 1 more i ((List.range i).map V)
  rows : ∀ q, q < i → wr.ownsRow w.heap.size 5 1 (V q) (n + 64) (bv (List.replicate (n + 64) ((q : Int) + 1)))
theorem P3.start (n : Nat) (V : Nat → Value) (w : World) : P3 n 0 V (.slice none 0 0) w w := ⟨Below.refl _ _, World.ownsRow_nil _ _ _ _, fun q hq => by omega⟩
theorem P3.next {n i : Nat} {V : Nat → Value} {more more' m : Value} {w1 wa wr w3 : World} (h : P3 n i V more w1 wa) (hown : wr.ownsRow wa.heap.size 5 1 m (n + 64) (bv (List.replicate (n + 64) ((i : Int) + 1)))) (hbel : Below wa.heap.size wa wr)
    (hown3 : w3.ownsRow w1.heap.size 22 1 more' (i + 1) ((List.range i).map V ++ [m])) (hg : wr.grownBy w3 more.ownBlock) : ∃ V', P3 n (i + 1) V' more' w1 w3 := by
  have hsz := h.below.size
  have hm : wr.ownsRow w1.heap.size 22 1 more i ((List.range i).map V) := own_later h.own hbel rfl
  refine ⟨fun q => if q = i then m else V q, ?_, ?_, ?_⟩
  · exact (h.below.trans (hbel.mono hsz)).grown hg (Nat.le_trans hsz hbel.size) (fun k hk => (h.own.lt k hk).1)
  · have e : (List.range (i + 1)).map (fun q => if q = i then m else V q) = (List.range i).map V ++ [m] := by
      rw [List.range_succ, List.map_append]
      congr 1
      · apply List.map_congr_left
        intro q hq
        have := List.mem_range.1 hq
        rw [if_neg (by omega)]
      · simp
    rw [e]; exact hown3
  · intro q hq
    by_cases e : q = i
    · subst e
      simp only [if_true]
      exact (own_le hown hsz).kept hg (own_ne hown hm (by decide))
    · simp only [if_neg e]
      have h1 := own_later (h.rows q (by omega)) hbel rfl
      exact h1.kept hg (own_ne h1 hm (by decide))
/-- A list that is being grown. -/
def P4 (g n i k : Nat) (m : Value) (w wr : World) : Prop :=
  (k = 0 ∧ m = .slice (some ⟨g, 0, none⟩) n n ∧ wr = w) ∨ (0 < k ∧ wr.ownsRow w.heap.size 5 1 m (n + k) (bv (List.replicate (n + k) ((i : Int) + 1))) ∧ Below w.heap.size w wr)

set_option maxHeartbeats 2000000 in
theorem alone_true (G : Nat → Nat) (L n : Nat) (hn : n ≤ 8) (w : World) (hd : ∀ i j, i < 4 → j < 4 → G i = G j → i = j) (hL : L < w.heap.size) (hLG : ∀ i, i < 4 → L ≠ G i)
    (hc : ∀ i, i < 4 → w.cell? ⟨L, i, none⟩ = some (.slice (some ⟨G i, 0, none⟩) n n)) (hr : ∀ i, i < 4 → Row w (G i) n 0 0) :
    Calls Try.prog 11 #[.slice (some ⟨L, 0, none⟩) 4 4] w fun e w' => e = .returned (.bool true) ∧ Exc (Four G) w w' := by
  have HD : Hid (∀ i j, i < 4 → j < 4 → G i = G j → i = j) := hd
  have HLG : Hid (∀ i, i < 4 → L ≠ G i) := hLG
  have HC : Hid (∀ i, i < 4 → w.cell? ⟨L, i, none⟩ = some (.slice (some ⟨G i, 0, none⟩) n n)) := hc
  have HP : Hid (P1 G n 0 w w) := ⟨Exc.refl _ _, rfl, hr, fun q hq => by omega⟩
  have HL : Hid (L < w.heap.size) := hL
  have HN4 : Hid (¬ Four G L) := by rintro ⟨i, hi, e⟩; exact hLG i hi e
  clear hd hLG hc hr hL
  go_enter Try.func11, Try.ntmps11
  go_wp2
  go_loopw [3] (fun i wr => ∃ k : Nat, k ≤ 4 ∧ i = .int .i64 k ∧ Hid (P1 G n k w wr)) (fun i _ => 4 - (intOf i).toNat)
  case atStart => exact ⟨0, Nat.zero_le _, rfl, HP⟩
  case round =>
    obtain ⟨i, hi, rfl, hp⟩ := hrel
    clear HP
    by_cases hlt : i < 4
    · have hlt2 : (i : Int) < 4 := by omega
      have hcl : wr.cell? ⟨L, i, none⟩ = some (.slice (some ⟨G i, 0, none⟩) n n) := by rw [hp.out.exc.cell HL.out HN4.out]; exact HC.out i hlt
      have HCL : Hid (wr.cell? ⟨L, i, none⟩ = some (.slice (some ⟨G i, 0, none⟩) n n)) := hcl
      clear hcl
      have HCL' := HCL.out
      go_wp2
      clear HCL'
      generalize wr = wa at *
      go_loopw [4] (fun j wr2 => ∃ k : Nat, k ≤ n ∧ j = .int .i64 k ∧ Hid (P2 G n i k wa wr2)) (fun j _ => n - (intOf j).toNat)
      case atStart => exact ⟨0, Nat.zero_le _, rfl, Exc.refl _ _, rfl, (hp.out.rows i hlt).start⟩
      case round =>
        obtain ⟨j, hj, rfl, hp2⟩ := hrel
        have hcl : wr.cell? ⟨L, i, none⟩ = some (.slice (some ⟨G i, 0, none⟩) n n) := by
          rw [hp2.out.exc.cell (by rw [hp.out.size]; exact HL.out) (fun e => HN4.out ⟨i, hlt, e⟩)]; exact HCL.out
        by_cases hltj : j < n
        · have hltj2 : (j : Int) < (n : Int) := by omega
          obtain ⟨z, hz⟩ := hp2.out.row.cell hltj
          have hfr := hp2.out.row.frozen (t := j)
          have HS : Hid (Row (wr.setCell ⟨G i, j, none⟩ (.int .u8 ((i : Int) + 1))) (G i) n (j + 1) ((i : Int) + 1)) := hp2.out.row.set hltj
          go_wp2
          go_roundw
          case rel => exact ⟨j + 1, by omega, by go_num, hp2.out.exc.set _ _ _ rfl, (by simp [World.setCell]; exact hp2.out.size), HS.out⟩
          case measure => simp [intOf]; omega
        · have hjn : j = n := by omega
          subst hjn
          have hp3 : Hid (P1 G j (i + 1) w wr) := P2.next HD.out hlt hp.out hp2.out
          go_wp2
          go_roundw
          case rel => exact ⟨i + 1, by omega, by go_num, hp3⟩
          case measure => simp [intOf]; omega
    · have hi4 : i = 4 := by omega
      subst hi4
      rw [show ((4 : Nat) : Int) = (4 : Int) from rfl]
      generalize wr = w1 at *
      go_wp2
      go_loopw [5, 6] (fun more i wr => ∃ k : Nat, k ≤ 4 ∧ i = .int .i64 k ∧ ∃ V : Nat → Value, Hid (P3 n k V more w1 wr)) (fun _ i _ => 4 - (intOf i).toNat)
      case atStart => exact ⟨0, Nat.zero_le _, rfl, fun _ => undef, P3.start _ _ _⟩
      case round =>
        obtain ⟨i, hi, rfl, V, hp3⟩ := hrel
        by_cases hlt : i < 4
        · have hlt2 : (i : Int) < 4 := by omega
          have hcl : wr.cell? ⟨L, i, none⟩ = some (.slice (some ⟨G i, 0, none⟩) n n) := by
            rw [hp3.out.below.cell (show L < w1.heap.size by rw [hp.out.size]; exact HL.out), hp.out.exc.cell HL.out HN4.out]; exact HC.out i hlt
          have HCL : Hid (wr.cell? ⟨L, i, none⟩ = some (.slice (some ⟨G i, 0, none⟩) n n)) := hcl
          have HRow : Hid (Row wr (G i) n n ((i : Int) + 1)) := (hp.out.full i hlt).keep (Exc.of_below (S := fun _ => False) hp3.out.below rfl) id
          go_wp2
          clear hcl
          generalize wr = wa at *
          go_loopw [7, 8] (fun m j wr => ∃ k : Nat, k ≤ 64 ∧ j = .int .i64 k ∧ Hid (P4 (G i) n i k m wa wr)) (fun _ j _ => 64 - (intOf j).toNat)
          case atStart => exact ⟨0, Nat.zero_le _, rfl, .inl ⟨rfl, rfl, rfl⟩⟩
          case round =>
            obtain ⟨j, hj, rfl, hp4⟩ := hrel
            by_cases hltj : j < 64
            · have hltj2 : (j : Int) < 64 := by omega
              rcases hp4.out with ⟨rfl, rfl, rfl⟩ | ⟨h0, hown, hbel⟩
              · go_wp2_with (at_builtin; refine appG (by rfl) _ _ (by rfl) (G i) n _ (by rfl) HRow.out (by rfl) (by omega) ?_; intro v' w2 hown2 hbel2)
                have HO2 : Hid (w2.ownsRow wr.heap.size 5 1 v' (n + 1) (bv (List.replicate (n + 1) ((i : Int) + 1)))) := hown2
                have HB2 : Hid (Below wr.heap.size wr w2) := hbel2
                clear hown2 hbel2
                go_roundw
                case rel => exact ⟨1, by omega, by go_num, .inr ⟨by omega, HO2.out, HB2.out⟩⟩
                case measure => simp [intOf]
              · have HO : Hid (wr.ownsRow wa.heap.size 5 1 u7 (List.replicate (n + j) ((i : Int) + 1)).length (bv (List.replicate (n + j) ((i : Int) + 1)))) := by unfold Hid; rw [List.length_replicate]; exact hown
                have HBl : Hid (Below wa.heap.size wa wr) := hbel
                clear hown hbel
                go_wp2_with (at_builtin; refine appB (by rfl) _ _ (by rfl) wa.heap.size _ (List.replicate (n + j) ((i : Int) + 1)) _ (by rfl) HO.out (by rfl) (by rw [List.length_replicate]; omega) HBl.out.size ?_; intro v' w2 hown2 hg2)
                have HO2 : Hid (w2.ownsRow wa.heap.size 5 1 v' (n + (j + 1)) (bv (List.replicate (n + (j + 1)) ((i : Int) + 1)))) := by
                  have := hown2
                  rw [← List.replicate_succ', List.length_replicate] at this
                  exact this
                have HB2 : Hid (Below wa.heap.size wa w2) := HBl.out.grown hg2 HBl.out.size (fun k hk => (HO.out.lt k hk).1)
                clear hown2 hg2
                go_roundw
                case rel => exact ⟨j + 1, by omega, by go_num, .inr ⟨by omega, HO2.out, HB2.out⟩⟩
                case measure => simp [intOf]; omega
            · have hj64 : j = 64 := by omega
              subst hj64
              rw [show ((64 : Nat) : Int) = (64 : Int) from rfl]
              obtain ⟨hown, hbel⟩ : wr.ownsRow wa.heap.size 5 1 u7 (n + 64) (bv (List.replicate (n + 64) ((i : Int) + 1))) ∧ Below wa.heap.size wa wr := by
                rcases hp4.out with ⟨h0, _⟩ | ⟨_, h1, h2⟩
                · omega
                · exact ⟨h1, h2⟩
              clear hp4
              obtain ⟨gm, cm, rfl⟩ := Go.Joins.ownsRow_form hown (by omega)
              have HO : Hid (wr.ownsRow wa.heap.size 5 1 (.slice (some ⟨gm, 0, none⟩) (n + 64) cm) (n + 64) (bv (List.replicate (n + 64) ((i : Int) + 1)))) := hown
              have HBl : Hid (Below wa.heap.size wa wr) := hbel
              have HM : Hid (wr.ownsRow w1.heap.size 22 1 u5 i ((List.range i).map V)) := own_later hp3.out.own hbel rfl
              have HBs : Hid (w1.heap.size ≤ wr.heap.size) := Nat.le_trans hp3.out.below.size hbel.size
              clear hown hbel
              go_wp2_with (at_builtin; refine appS (by rfl) _ _ (by rfl) w1.heap.size _ i ((List.range i).map V) _ (by rfl) (by rfl) HM.out (by rfl) (by omega) HBs.out ?_; intro v' w3 hown3 hg3)
              have hp5 : ∃ V', Hid (P3 n (i + 1) V' v' w1 w3) := P3.next hp3.out HO.out HBl.out hown3 hg3
              clear hown3 hg3
              go_roundw
              case rel => exact ⟨i + 1, by omega, by go_num, hp5⟩
              case measure => simp [intOf]; omega
        · have hi4 : i = 4 := by omega
          subst hi4
          rw [show ((4 : Nat) : Int) = (4 : Int) from rfl]
          generalize wr = w2 at *
          obtain ⟨gm, cm, rfl⟩ := Go.Joins.ownsRow_form hp3.out.own (by omega)
          have HE : Hid (Exc (Four G) w w2) := hp.out.exc.trans (Exc.of_below hp3.out.below rfl)
          go_wp2
          go_loopw [9] (fun i wr => ∃ k : Nat, k ≤ 4 ∧ i = .int .i64 k ∧ wr = w2) (fun i _ => 4 - (intOf i).toNat)
          case atStart => exact ⟨0, Nat.zero_le _, rfl, rfl⟩
          case round =>
            obtain ⟨i, hi, rfl, rfl⟩ := hrel
            by_cases hlt : i < 4
            · have hlt2 : (i : Int) < 4 := by omega
              have hcl : wr.cell? ⟨L, i, none⟩ = some (.slice (some ⟨G i, 0, none⟩) n n) := by
                rw [hp3.out.below.cell (show L < w1.heap.size by rw [hp.out.size]; exact HL.out), hp.out.exc.cell HL.out HN4.out]; exact HC.out i hlt
              have HRow : Hid (Row wr (G i) n n ((i : Int) + 1)) := (hp.out.full i hlt).keep (Exc.of_below (S := fun _ => False) hp3.out.below rfl) id
              have hcm : wr.cell? ⟨gm, i, none⟩ = some (V i) := by
                rw [hp3.out.own.cellAt i (by omega)]; simp [hlt]
              have hrow := hp3.out.rows i hlt
              obtain ⟨gi, ci, hVi⟩ := Go.Joins.ownsRow_form hrow (by omega)
              rw [hVi] at hcm hrow
              have HR2 : Hid (wr.ownsRow w1.heap.size 5 1 (.slice (some ⟨gi, 0, none⟩) (n + 64) ci) (n + 64) (bv (List.replicate (n + 64) ((i : Int) + 1)))) := hrow
              clear hrow hVi
              go_wp2
              go_loopw [10] (fun j wr' => ∃ k : Nat, k ≤ n + 64 ∧ j = .int .i64 k ∧ wr' = wr) (fun j _ => n + 64 - (intOf j).toNat)
              case atStart => exact ⟨0, Nat.zero_le _, rfl, rfl⟩
              case round =>
                obtain ⟨j, hj, rfl, rfl⟩ := hrel
                by_cases hltj : j < n + 64
                · have hltj2 : (j : Int) < (n : Int) + 64 := by omega
                  have hcj : wr.cell? ⟨gi, j, none⟩ = some (.int .u8 ((i : Int) + 1)) := by
                    rw [HR2.out.cellAt j (by omega), bv_get _ _ (by rw [List.length_replicate]; omega)]
                    simp [hltj]
                  by_cases hjn : j < n
                  · have hjn2 : (j : Int) < (n : Int) := by omega
                    have hcg := HRow.out.at_ hjn
                    go_wp2
                    go_roundw
                    case rel => exact ⟨j + 1, by omega, by go_num, trivial⟩
                    case measure => simp [intOf]; omega
                  · have hjn2 : (n : Int) ≤ (j : Int) := by omega
                    go_wp2
                    go_roundw
                    case rel => exact ⟨j + 1, by omega, by go_num, trivial⟩
                    case measure => simp [intOf]; omega
                · have hjn : (n : Int) + 64 ≤ (j : Int) := by omega
                  go_wp2
                  go_roundw
                  case rel => exact ⟨i + 1, by omega, by go_num, trivial⟩
                  case measure => simp [intOf]; omega
            · have hi4 : i = 4 := by omega
              subst hi4
              rw [show ((4 : Nat) : Int) = (4 : Int) from rfl]
              go_wp2
              go_ret
              exact ⟨rfl, HE.out⟩
end Go.Proofs.Ytjdlbkjkooeceab
