/-
  Irn Iro Ixd Ixc Ixw Inc Ixe Ing Irp.
-/
import Derived.Test.YtopddflnahfomaaGreatDoorM21
import Derived.BigQuiet
import Derived.Deep.RegionWith
import Derived.Deep.QuietTactic
import Derived.Test.YtopddflnahfomaaGreatDoorM11
import Derived.Test.YtopddflnahfomaaGreatDoorM12
import Derived.Test.YtopddflnahfomaaGreatDoorM13
import Derived.Test.YtopddflnahfomaaGreatDoorM18
import Derived.Lib.IndexLaws
import Derived.Test.YtopddflnahfomaaGreatDoorM16
import Derived.Test.YtopddflnahfomaaGreatDoorM10
namespace Go.Proofs.YtopddflnahfomaaGreatDoor
set_option linter.unusedVariables false
open Go.ChangeShapes Go.WideShapes Go.ChangeAt Go.RowKit Go.Deep
end Go.Proofs.YtopddflnahfomaaGreatDoor
namespace Go.Proofs.YtopddflnahfomaaGreatDoor
set_option linter.unusedVariables false
open Go.ChangeShapes Go.WideShapes Go.ChangeAt Go.RowKit Go.Deep
/-- The whole head. -/
def heF (b : List Int) : Flt := (idF b 7 0).or ((hdF b).or (phF b))
def tl (f : Flt) : Nat × Nat := f.getD (0, 0)
theorem set2_blk {w : World} {R : Nat} {o0 o1 : Value} {t : TypeId} (h : w.heap[R]? = some (.cells #[o0, o1] t (0, 0))) (a b : Value) : ((w.setCell ⟨R, 0, none⟩ a).setCell ⟨R, 1, none⟩ b).heap[R]? = some (.cells #[a, b] t (0, 0)) := by
  have h0 : (w.setCell ⟨R, 0, none⟩ a).heap[R]? = some (.cells #[a, o1] t (0, 0)) := heap_setCell_same w R 0 _ t a h
  exact heap_setCell_same _ R 1 _ t b h0
/-- What head answers. -/
def HdA (b : List Int) (w : World) (e : Ending) (w' : World) : Prop := e = .returned (.agg #[.int .i64 (tl (heF b)).1, .int .i64 (tl (heF b)).2]) ∧ Below w.heap.size w w'
theorem mag_cell {wr : World} {g : Nat} (h : wr.heap[g]? = some (.cells #[.int .u8 127, .int .u8 69, .int .u8 76, .int .u8 70, .int .u8 2, .int .u8 1, .int .u8 1] 5 (0, 0))) (q : Nat) (hq : q < 7) : wr.cell? ⟨g, q, none⟩ = some (.int .u8 (magL.getD q 0)) := by
  rw [cell_of_row wr g q _ _ _ h]
  have h : q = 0 ∨ q = 1 ∨ q = 2 ∨ q = 3 ∨ q = 4 ∨ q = 5 ∨ q = 6 := by omega
  rcases h with rfl | rfl | rfl | rfl | rfl | rfl | rfl <;> rfl
end Go.Proofs.YtopddflnahfomaaGreatDoor
namespace Go.Proofs.YtopddflnahfomaaGreatDoor
set_option linter.unusedVariables false
set_option maxRecDepth 100000
open Go.ChangeShapes Go.WideShapes Go.ChangeAt Go.RowKit Go.Deep
theorem byte_at (l : List Int) (k : Nat) : (Lib.bytesOf l)[k]? = l[k]?.map fun n => UInt8.ofNat n.toNat := by unfold Lib.bytesOf; rw [List.getElem?_map]
theorem byte_zero {n : Int} (h : 0 ≤ n ∧ n ≤ 255) : UInt8.ofNat n.toNat = 0 ↔ n = 0 := by
  constructor
  · intro e
    have := congrArg UInt8.toNat e
    rw [UInt8.toNat_ofNat'] at this
    have h2 : n.toNat % 256 = n.toNat := Nat.mod_eq_of_lt (by omega)
    have h3 : n.toNat % 256 = 0 := this
    omega
  · rintro rfl; rfl
theorem fz_hit {T : List Int} (hT : AllB T) {o i : Nat} (ho : o ≤ i) (hi : i < T.length) (h0 : T.getD i 0 = 0) (hno : ∀ j, o ≤ j → j < i → T.getD j 0 ≠ 0) : fz (T.drop o) = ((i - o : Nat) : Int) := by
  have at1 : ∀ k, k < T.length - o → (Lib.bytesOf (T.drop o))[k]? = some (UInt8.ofNat (T.getD (o + k) 0).toNat) := fun k hk => by
    rw [byte_at, List.getElem?_drop, List.getD_eq_getElem?_getD]
    have : o + k < T.length := by omega
    simp [this]
  have hz : (Lib.bytesOf (T.drop o))[i - o]? = some 0 := by
    rw [at1 _ (by omega), show o + (i - o) = i by omega, h0]; rfl
  have hge := Lib.indexByte_ge (Lib.bytesOf (T.drop o)) 0
  unfold fz
  rcases Int.lt_or_le (Lib.indexByte (Lib.bytesOf (T.drop o)) 0) 0 with q | q
  · exact absurd hz (Lib.indexByte_none (by omega) _)
  · obtain ⟨p, hp⟩ : ∃ p : Nat, Lib.indexByte (Lib.bytesOf (T.drop o)) 0 = p := ⟨_, (Int.toNat_of_nonneg q).symm⟩
    obtain ⟨h1, h2⟩ := Lib.indexByte_some hp
    rw [hp]
    rcases Nat.lt_trichotomy p (i - o) with r | r | r
    · have hb := getD_byte hT (o + p)
      rw [at1 p (by omega)] at h1
      have e := (byte_zero hb).1 (Option.some.inj h1)
      exact absurd e (hno (o + p) (by omega) (by omega))
    · rw [r]
    · exact absurd hz (h2 _ r)
theorem fz_none {T : List Int} (hT : AllB T) {o : Nat} (hno : ∀ j, o ≤ j → j < T.length → T.getD j 0 ≠ 0) : fz (T.drop o) < 0 := by
  have hge := Lib.indexByte_ge (Lib.bytesOf (T.drop o)) 0
  unfold fz
  rcases Int.lt_or_le (Lib.indexByte (Lib.bytesOf (T.drop o)) 0) 0 with q | q
  · exact q
  · obtain ⟨p, hp⟩ : ∃ p : Nat, Lib.indexByte (Lib.bytesOf (T.drop o)) 0 = p := ⟨_, (Int.toNat_of_nonneg q).symm⟩
    obtain ⟨h1, h2⟩ := Lib.indexByte_some hp
    have hlt : p < (T.drop o).length := by
      have := (List.getElem?_eq_some_iff.1 h1).1
      rwa [Lib.bytesOf_length] at this
    rw [List.length_drop] at hlt
    rw [byte_at, List.getElem?_drop] at h1
    have h3 : o + p < T.length := by omega
    rw [List.getElem?_eq_getElem h3] at h1
    have hb := getD_byte hT (o + p)
    have e : T.getD (o + p) 0 = T[o + p] := by simp [h3]
    rw [e] at hb
    have := (byte_zero hb).1 (Option.some.inj h1)
    exact absurd (e.trans this) (hno (o + p) (by omega) h3)
/-- What text answers. -/
def TxP (T : List Int) (o : Nat) (w : World) (e : Ending) (w' : World) : Prop :=
  ((T.length ≤ o ∨ fz (T.drop o) < 0) ∧ e = .returned (.tuple #[.string ⟨#[]⟩, .bool false]) ∧ w = w') ∨ (¬ (T.length ≤ o ∨ fz (T.drop o) < 0) ∧ e = .returned (.tuple #[.string (strOfNums (txT T o)), .bool true]) ∧ w = w')
theorem eqS_symm (x y : Sy) : eqS x y = eqS y x := by
  cases h : eqS x y with
  | true => rw [eqS_iff.1 h]; exact (eqS_iff.2 rfl).symm
  | false =>
    cases h2 : eqS y x with
    | true => rw [eqS_iff.1 h2, eqS_iff.2 rfl] at h; cases h
    | false => rfl
theorem eqG_sym (u v : Array Value) (x y : Operand) (w : World) : (eqGuard .eql 45 x y (.agg u) (.agg v)).run Tryz.prog w = .ok () w := by kernel_rfl
theorem any_upto {N : List Sy} {x : Sy} (h : ∀ j, j < N.length → eqS x (sy N j) = false) : N.any (eqS x) = false := by
  rw [List.any_eq_false]
  intro y hy
  obtain ⟨j, hj, rfl⟩ := List.getElem_of_mem hy
  have := h j hj
  unfold sy at this
  simp [hj] at this
  simp [this]
theorem any_at {N : List Sy} {x : Sy} {j : Nat} (hj : j < N.length) (h : eqS x (sy N j) = true) : N.any (eqS x) = true := by
  rw [List.any_eq_true]
  refine ⟨N[j], List.getElem_mem hj, ?_⟩
  unfold sy at h
  simpa [hj] using h
theorem size_flt : (Tryz.prog.info? 95).map (·.size) = some 3 := by kernel_rfl
end Go.Proofs.YtopddflnahfomaaGreatDoor
namespace Go.Proofs.YtopddflnahfomaaGreatDoor
set_option linter.unusedVariables false
set_option maxRecDepth 100000
open Go.ChangeShapes Go.WideShapes Go.ChangeAt Go.RowKit Go.Deep
theorem frT_none {b : List Int} {P : Nat} : ∀ (r i : Nat), (∀ j, i ≤ j → j < i + r → ¬ vl b (P + 64 * j + 4) 4 = 2) → frT b P r i = none
  | 0, i, _ => rfl
  | r + 1, i, h => by
    rw [frT, if_neg (h i (Nat.le_refl _) (by omega))]
    exact frT_none r (i + 1) (fun j h1 h2 => h j (by omega) (by omega))
theorem frT_some {b : List Int} {P t : Nat} (ht : vl b (P + 64 * t + 4) 4 = 2) : ∀ (r i : Nat), i ≤ t → t < i + r → (∀ j, i ≤ j → j < t → ¬ vl b (P + 64 * j + 4) 4 = 2) → frT b P r i = some t
  | 0, i, h1, h2, _ => by omega
  | r + 1, i, h1, h2, h => by
    by_cases e : i = t
    · subst e; rw [frT, if_pos ht]
    · rw [frT, if_neg (h i (Nat.le_refl _) (by omega))]
      exact frT_some ht r (i + 1) (by omega) (by omega) (fun j q1 q2 => h j (by omega) q2)
/-- The first table of those from m on. -/
def Fst (b : List Int) (P K m : Nat) (s : Int) : Prop :=
  (s = -1 ∧ ∀ j, m ≤ j → j < K → ¬ vl b (P + 64 * j + 4) 4 = 2) ∨ (∃ t : Nat, s = ((P + 64 * t : Nat) : Int) ∧ m ≤ t ∧ t < K ∧ vl b (P + 64 * t + 4) 4 = 2 ∧ ∀ j, m ≤ j → j < t → ¬ vl b (P + 64 * j + 4) 4 = 2)
theorem fst_hit {b : List Int} {P K n : Nat} {s : Int} (hn : n < K) (h : Fst b P K (n + 1) s) (hh : vl b (P + 64 * n + 4) 4 = 2) : Fst b P K n ((P + 64 * n : Nat) : Int) := .inr ⟨n, rfl, Nat.le_refl _, hn, hh, fun j h1 h2 => by omega⟩
theorem fst_miss {b : List Int} {P K n : Nat} {s : Int} (h : Fst b P K (n + 1) s) (hh : ¬ vl b (P + 64 * n + 4) 4 = 2) : Fst b P K n s := by
  rcases h with ⟨h1, h2⟩ | ⟨t, h1, h2, h3, h4, h5⟩
  · refine .inl ⟨h1, fun j q1 q2 => ?_⟩
    by_cases e : j = n
    · rw [e]; exact hh
    · exact h2 j (by omega) q2
  · refine .inr ⟨t, h1, by omega, h3, h4, fun j q1 q2 => ?_⟩
    by_cases e : j = n
    · rw [e]; exact hh
    · exact h5 j (by omega) q2
/-- What table answers. -/
def TbP (b : List Int) (w : World) (e : Ending) (w' : World) : Prop :=
  Below w.heap.size w w' ∧ ((nsR b = ([], none) ∧ e = .returned (.tuple #[.int .i64 (-1), .int .i64 0, .int .i64 0, .int .i64 0, .agg #[.int .i64 0, .int .i64 0]]))
  ∨ (∃ F : Nat × Nat, nsR b = ([], some F) ∧ e = .returned (.tuple #[.int .i64 (-1), .int .i64 0, .int .i64 0, .int .i64 0, .agg #[.int .i64 F.1, .int .i64 F.2]]))
  ∨ (∃ A M TP TL : Nat, nsR b = nmL b ((b.drop TP).take TL) A (M / 24 - 1) ∧ TP + TL ≤ b.length ∧ A + M ≤ b.length ∧ M % 24 = 0 ∧ e = .returned (.tuple #[.int .i64 (A : Int), .int .i64 (M : Int), .int .i64 (TP : Int), .int .i64 (TL : Int), .agg #[.int .i64 0, .int .i64 0]])))
theorem tnR_bad2 {b : List Int} {P K H : Nat} {F : Nat × Nat} (h : tbF b P K H = some F) : tnR b P K H = ([], some F) := by
  unfold tnR; rw [h, if_pos (by rfl)]
end Go.Proofs.YtopddflnahfomaaGreatDoor
namespace Go.Proofs.YtopddflnahfomaaGreatDoor
set_option linter.unusedVariables false
open Go.ChangeShapes Go.WideShapes Go.ChangeAt Go.RowKit Go.Deep
def Wy (f : Flt) : Prop := ∀ F, f = some F → F.2 ≠ 0
theorem wy_none : Wy none := fun F h => by cases h
theorem wy_some {a n : Nat} (h : n ≠ 0) : Wy (some (a, n)) := fun F e => by cases e; exact h
theorem wy_ite {c : Prop} [Decidable c] {x y : Flt} (hx : Wy x) (hy : Wy y) : Wy (if c then x else y) := by split <;> assumption
theorem wy_or {x y : Flt} (hx : Wy x) (hy : Wy y) : Wy (x.or y) := by
  cases x with
  | none => exact hy
  | some F => exact hx
theorem wy_id (b : List Int) : ∀ r i, Wy (idF b r i)
  | 0, _ => wy_none
  | r + 1, i => by
    rw [idF]
    exact wy_ite (wy_some (by decide)) (wy_ite (wy_some (by decide)) (wy_id b r (i + 1)))
theorem wy_hd (b : List Int) : Wy (hdF b) := by
  unfold hdF
  exact wy_ite (wy_some (by decide)) (wy_ite (wy_some (by decide)) (wy_ite (wy_some (by decide)) (wy_ite (wy_some (by decide)) (wy_ite (wy_some (by decide)) (wy_ite (wy_some (by decide)) (wy_ite (wy_some (by decide)) wy_none))))))
theorem wy_ph (b : List Int) : Wy (phF b) := by
  unfold phF
  exact wy_ite (wy_some (by decide)) (wy_ite (wy_some (by decide)) (wy_ite (wy_some (by decide)) wy_none))
theorem wy_pt (b : List Int) (h : Nat) : Wy (ptF b h) := by
  unfold ptF
  exact wy_ite (wy_some (by decide)) (wy_ite (wy_some (by decide)) (wy_ite (wy_some (by decide)) (wy_ite (wy_some (by decide)) wy_none)))
theorem wy_pr (b : List Int) (P : Nat) : ∀ i, Wy (prL b P i).2
  | 0 => by rw [prL_zero]; exact wy_none
  | i + 1 => by
    have ih := wy_pr b P i
    obtain ⟨l, f, hf⟩ : ∃ l f, prL b P i = (l, f) := ⟨_, _, rfl⟩
    rw [hf] at ih
    cases f with
    | some F => rw [prL_stop hf _ (Nat.le_succ _)]; exact ih
    | none =>
      by_cases h1 : isPt b (P + 56 * i)
      · cases h2 : ptF b (P + 56 * i) with
        | some F => rw [prL_own hf h1 h2, ← h2]; exact wy_pt b _
        | none =>
          by_cases h3 : l.any (mtB (ptAt b (P + 56 * i))) = true
          · rw [prL_meet hf h1 h2 h3]; exact wy_some (by decide)
          · rw [prL_add hf h1 h2 h3]; exact wy_none
      · rw [prL_pass hf h1]; exact wy_none
theorem wy_pa (b : List Int) : Wy (paF b) := by
  unfold paF
  exact wy_ite (wy_ph b) (wy_pr b _ _)
theorem wy_tx (b : List Int) (P K H : Nat) : Wy (txF b P K H) := by
  unfold txF
  exact wy_ite (wy_some (by decide)) (wy_ite (wy_some (by decide)) (wy_ite (wy_some (by decide)) wy_none))
theorem wy_tb (b : List Int) (P K H : Nat) : Wy (tbF b P K H) := by
  unfold tbF
  exact wy_ite (wy_some (by decide)) (wy_ite (wy_some (by decide)) (wy_ite (wy_some (by decide)) (wy_tx b P K H)))
theorem wy_nm (b T : List Int) (A : Nat) : ∀ i, Wy (nmL b T A i).2
  | 0 => wy_none
  | i + 1 => by
    have ih := wy_nm b T A i
    obtain ⟨l, f, hf⟩ : ∃ l f, nmL b T A i = (l, f) := ⟨_, _, rfl⟩
    rw [hf] at ih
    cases f with
    | some F => rw [nmL_stop hf _ (Nat.le_succ _)]; exact ih
    | none =>
      cases he : enE b T (A + 24 * (i + 1)) with
      | none => rw [nmL_bad hf he]; exact wy_some (by decide)
      | some o =>
        cases o with
        | none => rw [nmL_pass hf he]; exact wy_none
        | some x =>
          cases ha : l.any (eqS x) with
          | true => rw [nmL_had hf he ha]; exact wy_none
          | false =>
            by_cases hm : l.length = 400
            · rw [nmL_many hf he ha hm]; exact wy_some (by decide)
            · rw [nmL_add hf he ha hm]; exact wy_none
theorem wy_tn (b : List Int) (P K H : Nat) : Wy (tnR b P K H).2 := by
  cases h : tbF b P K H with
  | some F => rw [tnR_bad h, ← h]; exact wy_tb b P K H
  | none => rw [tnR_go h]; exact wy_nm _ _ _ _
theorem wy_ns (b : List Int) : Wy (nsR b).2 := by
  unfold nsR
  generalize vl b 60 2 = K
  generalize vl b 40 8 = P
  generalize vl b 58 2 = Z
  by_cases h1 : K = 0 ∨ P = 0
  · rw [nsQ_no h1]; exact wy_none
  · by_cases h2 : Z ≠ 64
    · rw [nsQ_head h1 h2]; exact wy_some (by decide)
    · by_cases h3 : ¬ room b P (64 * K)
      · rw [nsQ_room h1 h2 h3]; exact wy_some (by decide)
      · cases h4 : frT b P K 0 with
        | none => rw [nsQ_none h1 h2 h3 h4]; exact wy_none
        | some i => rw [nsQ_some h1 h2 h3 h4]; exact wy_tn _ _ _ _
theorem wy_he (b : List Int) : Wy (heF b) := by
  unfold heF
  exact wy_or (wy_id b _ _) (wy_or (wy_hd b) (wy_ph b))
theorem wy_rd (b : List Int) : Wy (rdF b) := by
  unfold rdF
  exact wy_ite (wy_some (by decide)) (wy_or (wy_id b _ _) (wy_or (wy_hd b) (wy_or (wy_pa b) (wy_ns b))))
end Go.Proofs.YtopddflnahfomaaGreatDoor
namespace Go.Proofs.YtopddflnahfomaaGreatDoor
set_option linter.unusedVariables false
open Go.RowKit Go.Shelf Go.Lib
end Go.Proofs.YtopddflnahfomaaGreatDoor
namespace Go.Proofs.YtopddflnahfomaaGreatDoor
set_option linter.unusedVariables false
set_option maxRecDepth 100000
open Go.ChangeShapes Go.WideShapes Go.ChangeAt Go.RowKit Go.Deep
theorem slice_I2 (W : World) (a : Option Addr) (len cap l n : Nat) (hc : l + n ≤ cap) :
    (Instr.slice 29 (.slice a len cap) (some (.int .i64 (l : Int))) (some (.int .i64 ((l : Int) + n))) none).run Tryz.prog W = .ok (.slice (if cap = l then a else a.map (fun x => x.add l)) n (cap - l)) W := slice_I W a len cap l n _ rfl hc
/-- What names answers. -/
def RnP (r : List Sy × Flt) (w : World) (e : Ending) (w' : World) : Prop :=
  (r.2 = none ∧ ∃ um un uc, e = .returned (.tuple #[.slice um un uc, .agg #[.int .i64 0, .int .i64 0]]) ∧ w'.ownsRow w.heap.size 45 2 (.slice um un uc) r.1.length (syl r.1) ∧ Below w.heap.size w w')
  ∨ (∃ F, r.2 = some F ∧ e = .returned (.tuple #[.slice none 0 0, .agg #[.int .i64 F.1, .int .i64 F.2]]) ∧ Below w.heap.size w w')
theorem below_al {w : World} (o : Obj) : Below w.heap.size w (w.alloc o) := (Below.refl _ _).alloc (Nat.le_refl _) _
end Go.Proofs.YtopddflnahfomaaGreatDoor
namespace Go.Proofs.YtopddflnahfomaaGreatDoor
set_option linter.unusedVariables false
open Go.ChangeShapes Go.WideShapes Go.ChangeAt Go.RowKit Go.Deep
theorem below2 (w : World) (a b : Obj) : Below w.heap.size w ((w.alloc a).alloc b) := ((Below.refl _ _).alloc (Nat.le_refl _) _).alloc (by simp) _
end Go.Proofs.YtopddflnahfomaaGreatDoor
namespace Go.Proofs.YtopddflnahfomaaGreatDoor
set_option linter.unusedVariables false
open Go.ChangeShapes Go.WideShapes Go.ChangeAt Go.RowKit Go.Deep
/-- A part meets one of a list. -/
def anyM (L : List Sg) (x y : BitVec 64) : Nat → Bool
  | 0 => false
  | k + 1 => anyM L x y k || meetB x y (sg L k).a (sg L k).s
theorem anyM_true {L : List Sg} {x y : BitVec 64} {k m : Nat} (hk : k < m) (h : meetB x y (sg L k).a (sg L k).s = true) : anyM L x y m = true := by
  induction m with
  | zero => omega
  | succ m ih =>
    by_cases e : k = m
    · subst e; rw [anyM, h, Bool.or_true]
    · rw [anyM, ih (by omega), Bool.true_or]
theorem below_drewM {B : Nat} {w w' : World} (h : Below B w w') (n : Nat) : Below B w (w'.drewN n) := ⟨h.os, h.tape, h.output, h.size, h.block⟩
end Go.Proofs.YtopddflnahfomaaGreatDoor
