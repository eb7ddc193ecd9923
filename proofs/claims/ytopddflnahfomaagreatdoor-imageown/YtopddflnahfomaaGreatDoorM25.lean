/-
  Iya Iwa Iwb.
-/
import Derived.Test.YtopddflnahfomaaGreatDoorM20
import Derived.Test.YtopddflnahfomaaGreatDoorM24
import Derived.Lib.OwnKind
import Derived.Maps.AppendAt
import Derived.BigQuiet
import Derived.Deep.QuietTactic
import Derived.Test.YtopddflnahfomaaGreatDoorM09
import Derived.Lib.AppendStr
import Derived.Lib.SmallJoins
import Derived.Test.YtopddflnahfomaaGreatDoorM02
namespace Go.Proofs.YtopddflnahfomaaGreatDoor
set_option linter.unusedVariables false
set_option maxRecDepth 100000
open Go.ChangeShapes Go.WideShapes Go.ChangeAt Go.RowKit Go.Deep
/-- The bytes of the parts. -/
def Dta (w : World) (L : List Sg) (D : Nat → List Int) : Prop := ∀ j, j < L.length → (D j).length = (sg L j).n ∧ Byt w (.slice (sg L j).m (sg L j).n (sg L j).c) (D j)
theorem Dta.later {w w' : World} {L : List Sg} {D : Nat → List Int} (h : Dta w L D) (hb : Below w.heap.size w w') : Dta w' L D := fun j hj => ⟨(h j hj).1, (h j hj).2.later hb rfl⟩
theorem same_true {w : World} {va vb : Value} {l : List Int} (ha : Byt w va l) (hb : Byt w vb l) :
    Calls Tryz.prog 33 #[va, vb] w fun e w' => e = .returned (.bool true) ∧ w' = w := by
  have ca := ha.conv
  have cb := hb.conv
  generalize strOfNums l = s at ca cb
  clear ha hb
  go_enter Tryz.func33, Tryz.ntmps33
  go_wp2
  go_ret
  exact ⟨rfl, rfl⟩
theorem below_drewN {B : Nat} {w w' : World} (h : Below B w w') (n : Nat) : Below B w (w'.drewN n) := ⟨h.os, h.tape, h.output, h.size, h.block⟩
theorem Byt.nil (w : World) : Byt w (.slice none 0 0) [] := ⟨none, 0, rfl, Nat.le_refl _, fun _ => rfl, fun h => absurd rfl h⟩
theorem Byt.drewN {w : World} {v : Value} {l : List Int} (h : Byt w v l) : Byt w.drew v l := h.later (Below.drew (Below.refl _ _)) rfl
theorem Byt.of_own {w : World} {B n : Nat} {v : Value} {l : List Int} (h : w.ownsRow B 5 1 v n (bv l)) : Byt w v l := by
  have hlen := h.1
  rw [bv_len, Nat.mul_one] at hlen
  rcases Go.Joins.ownsRow_forms h with ⟨rfl, h0⟩ | ⟨g, cap, rfl⟩
  · have hl0 : l = [] := List.eq_nil_of_length_eq_zero (by omega)
    subst hl0
    exact Byt.nil w
  · have hcap : n ≤ cap := by
      rcases h.2 with ⟨h', _⟩ | ⟨g', cap', cur, h', _, _, hn, _⟩
      · simp at h'
      · simp only [Value.slice.injEq] at h'; obtain ⟨_, _, rfl⟩ := h'; exact hn
    subst hlen
    exact ⟨some ⟨g, 0, none⟩, cap, rfl, by omega, (fun e => by cases e), fun hne => ⟨g, 0, rfl, (h.lt g rfl).2, fun j hj => by rw [Nat.zero_add, h.cellAt j (by omega), bv_get _ _ hj]⟩⟩
set_option maxRecDepth 100000 in
set_option maxHeartbeats 4000000 in
theorem lparts_c (va vb : Value) (L M : List Sg) (D : Nat → List Int) (hl : L.length ≤ 140737488355328) (w : World) (ha : Sgs w va M) (hb : Sgs w vb L) (hal : Alike L M) (hda : Dta w M D) (hdb : Dta w L D) :
    Calls Tryz.prog 17 #[va, vb] w fun e w' => e = .returned (.bool true) ∧ Below w.heap.size w w' := by
  have HA : Hid (Sgs w va M) := ha
  have HB : Hid (Sgs w vb L) := hb
  have HL : Hid (Alike L M) := hal
  have HDA : Hid (Dta w M D) := hda
  have HDB : Hid (Dta w L D) := hdb
  obtain ⟨aa, ac, rfl, _, _⟩ := ha
  obtain ⟨ba, bc, rfl, _, _⟩ := hb
  rw [hal.len] at HA ⊢
  have hlI : (L.length : Int) ≤ 140737488355328 := by omega
  clear hal hda hdb
  go_enter Tryz.func17, Tryz.ntmps17
  go_wp2
  go_loopw [5] (fun i wr => ∃ k : Nat, k ≤ L.length ∧ i = .int .i64 k ∧ Hid (Below w.heap.size w wr)) (fun i _ => L.length - (intOf i).toNat)
  case atStart => exact ⟨0, Nat.zero_le _, rfl, Below.refl _ _⟩
  case round =>
    obtain ⟨k, hk, rfl, hw⟩ := hrel
    by_cases hlt : k < L.length
    · have hltI : (k : Int) < (L.length : Int) := by omega
      have hMl := HL.out.len
      obtain ⟨_, _, he, _, hcc⟩ := HA.out.later hw.out rfl
      simp only [Value.slice.injEq] at he
      obtain ⟨rfl, _, rfl⟩ := he
      obtain ⟨g, off, rfl, hg, hcells⟩ := hcc (by intro e; rw [e] at hMl; simp only [List.length_nil] at hMl; omega)
      obtain ⟨c0, c1, c2, c3⟩ := hcells k (by omega)
      obtain ⟨_, _, he, _, hcc'⟩ := HB.out.later hw.out rfl
      cases he
      obtain ⟨g', off', rfl, hg', hcells'⟩ := hcc' (by intro e; rw [e] at hlt; exact absurd hlt (Nat.not_lt_zero _))
      obtain ⟨d0, d1, d2, d3⟩ := hcells' k hlt
      rw [HL.out.a k hlt] at c0
      rw [HL.out.s k hlt] at c1
      rw [HL.out.f k hlt] at c2
      have y1 := (HDA.out.later hw.out k (by omega)).2
      have y2 := (HDB.out.later hw.out k hlt).2
      have HY1 : Hid (∀ wx, Below wr.heap.size wr wx → Byt wx (.slice (sg M k).m (sg M k).n (sg M k).c) (D k)) := fun wx hx => y1.later hx rfl
      have HY2 : Hid (∀ wx, Below wr.heap.size wr wx → Byt wx (.slice (sg L k).m (sg L k).n (sg L k).c) (D k)) := fun wx hx => y2.later hx rfl
      clear hcells hcc hg hcells' hcc' hg' y1 y2 hMl
      obtain ⟨A, hA⟩ : ∃ A, A = n64 (sg L k).a := ⟨_, rfl⟩
      obtain ⟨S, hS⟩ : ∃ S, S = n64 (sg L k).s := ⟨_, rfl⟩
      obtain ⟨F, hF⟩ : ∃ F, F = (sg L k).f := ⟨_, rfl⟩
      obtain ⟨x, hx⟩ : ∃ x, x = sg M k := ⟨_, rfl⟩
      rw [← hA] at c0 d0
      rw [← hS] at c1 d1
      rw [← hF] at c2 d2
      rw [← hx] at c3 HY1
      obtain ⟨y, hy⟩ : ∃ y, y = sg L k := ⟨_, rfl⟩
      rw [← hy] at d3 HY2
      clear hA hS hF hx hy
      go_wp2
      --@CUT1
      go_quiet ((first | (go_at_call 33; exact Calls.quiet_of_same (same_true (l := D k) (HY1.out _ (by first | exact Below.refl _ _ | exact Below.drew (Below.refl _ _) | exact below_drewN (Below.refl _ _) _)) (HY2.out _ (by first | exact Below.refl _ _ | exact Below.drew (Below.refl _ _) | exact below_drewN (Below.refl _ _) _)))) | fail))
      go_wp2
      --@CUT2
      go_roundw
      case rel => exact ⟨k + 1, by omega, by go_num, below_drewN hw.out _⟩
      case measure => simp only [intOf]; omega
    · obtain rfl : k = L.length := by omega
      have hltI : ¬ ((L.length : Int) < L.length) := by omega
      go_wp2
      go_ret
      exact ⟨rfl, hw.out⟩
set_option maxRecDepth 100000 in
set_option maxHeartbeats 4000000 in
theorem lnames_c (va vb : Value) (N : List Sy) (hl : N.length ≤ 140737488355328) (w : World) (ha : Sys w va N) (hb : Sys w vb N) :
    Calls Tryz.prog 18 #[va, vb] w fun e w' => e = .returned (.bool true) ∧ Below w.heap.size w w' := by
  have HA : Hid (Sys w va N) := ha
  have HB : Hid (Sys w vb N) := hb
  obtain ⟨aa, ac, rfl, _, _⟩ := ha
  obtain ⟨ba, bc, rfl, _, _⟩ := hb
  have hlI : (N.length : Int) ≤ 140737488355328 := by omega
  go_enter Tryz.func18, Tryz.ntmps18
  go_wp2
  go_loopw [5] (fun i wr => ∃ k : Nat, k ≤ N.length ∧ i = .int .i64 k ∧ Hid (Below w.heap.size w wr)) (fun i _ => N.length - (intOf i).toNat)
  case atStart => exact ⟨0, Nat.zero_le _, rfl, Below.refl _ _⟩
  case round =>
    obtain ⟨k, hk, rfl, hw⟩ := hrel
    by_cases hlt : k < N.length
    · have hltI : (k : Int) < (N.length : Int) := by omega
      obtain ⟨_, _, he, _, hcc⟩ := HA.out.later hw.out rfl
      cases he
      obtain ⟨g, off, rfl, hg, hcells⟩ := hcc (by intro e; rw [e] at hlt; exact absurd hlt (Nat.not_lt_zero _))
      obtain ⟨c0, c1⟩ := hcells k hlt
      obtain ⟨_, _, he, _, hcc'⟩ := HB.out.later hw.out rfl
      cases he
      obtain ⟨g', off', rfl, hg', hcells'⟩ := hcc' (by intro e; rw [e] at hlt; exact absurd hlt (Nat.not_lt_zero _))
      obtain ⟨d0, d1⟩ := hcells' k hlt
      clear hcells hcc hg hcells' hcc' hg'
      obtain ⟨s, hs⟩ : ∃ s, s = (sy N k).s := ⟨_, rfl⟩
      obtain ⟨v, hv⟩ : ∃ v, v = n64 (sy N k).v := ⟨_, rfl⟩
      rw [← hs] at c0 d0
      rw [← hv] at c1 d1
      clear hs hv
      go_wp2
      --@CUT3
      go_quiet (fail)
      go_wp2
      go_roundw
      case rel => exact ⟨k + 1, by omega, by go_num, below_drewN hw.out _⟩
      case measure => simp only [intOf]; omega
    · obtain rfl : k = N.length := by omega
      have hltI : ¬ ((N.length : Int) < N.length) := by omega
      go_wp2
      go_ret
      exact ⟨rfl, hw.out⟩
/-- An image's two lists. -/
structure Imq (w : World) (vs vn : Value) (L : List Sg) (N : List Sy) : Prop where
  segs : Sgs w vs L
  syms : Sys w vn N
set_option maxRecDepth 100000 in
set_option maxHeartbeats 4000000 in
theorem alike_c (E : BitVec 64) (va vna vb vnb : Value) (L M : List Sg) (N : List Sy) (D : Nat → List Int) (hl : L.length ≤ 140737488355328) (hn : N.length ≤ 140737488355328) (w : World) (ha : Imq w va vna M N) (hb : Imq w vb vnb L N) (hal : Alike L M) (hda : Dta w M D) (hdb : Dta w L D) :
    Calls Tryz.prog 10 #[.agg #[.int .u64 (n64 E), va, vna], .agg #[.int .u64 (n64 E), vb, vnb]] w fun e w' => e = .returned (.bool true) ∧ Below w.heap.size w w' := by
  have HA : Hid (Imq w va vna M N) := ha
  have HB : Hid (Imq w vb vnb L N) := hb
  have HL : Hid (Alike L M) := hal
  have HDA : Hid (Dta w M D) := hda
  have HDB : Hid (Dta w L D) := hdb
  obtain ⟨a1, c1, rfl, _, _⟩ := ha.segs
  obtain ⟨a2, c2, rfl, _, _⟩ := ha.syms
  obtain ⟨b1, e1, rfl, _, _⟩ := hb.segs
  obtain ⟨b2, e2, rfl, _, _⟩ := hb.syms
  obtain ⟨m1, hm1⟩ : ∃ m, m = M.length := ⟨_, rfl⟩
  obtain ⟨m3, hm3⟩ : ∃ m, m = L.length := ⟨_, rfl⟩
  obtain ⟨m2, hm2⟩ : ∃ m, m = N.length := ⟨_, rfl⟩
  rw [← hm1, ← hm2] at HA ⊢
  rw [← hm3] at HB ⊢
  rw [← hm2] at HB
  obtain ⟨m4, hm4⟩ : ∃ m, m = m2 := ⟨_, rfl⟩
  have HB1 : Hid (Below w.heap.size w ((w.alloc (.cells #[.int .u64 (n64 E), .slice a1 m1 c1, .slice a2 m2 c2] 26)).alloc (.cells #[.int .u64 (n64 E), .slice b1 m3 e1, .slice b2 m4 e2] 26))) := ((Below.refl _ _).alloc (Nat.le_refl _) _).alloc (by simp) _
  have k0 : Hid (∀ wx, Below ((w.alloc (.cells #[.int .u64 (n64 E), .slice a1 m1 c1, .slice a2 m2 c2] 26)).alloc (.cells #[.int .u64 (n64 E), .slice b1 m3 e1, .slice b2 m4 e2] 26)).heap.size ((w.alloc (.cells #[.int .u64 (n64 E), .slice a1 m1 c1, .slice a2 m2 c2] 26)).alloc (.cells #[.int .u64 (n64 E), .slice b1 m3 e1, .slice b2 m4 e2] 26)) wx → (wx.cell? ⟨w.heap.size, 0, none⟩ = some (.int .u64 (n64 E)) ∧ wx.cell? ⟨w.heap.size, 1, none⟩ = some (.slice a1 m1 c1) ∧ wx.cell? ⟨w.heap.size, 2, none⟩ = some (.slice a2 m2 c2)) ∧ wx.cell? ⟨w.heap.size + 1, 0, none⟩ = some (.int .u64 (n64 E)) ∧ wx.cell? ⟨w.heap.size + 1, 1, none⟩ = some (.slice b1 m3 e1) ∧ wx.cell? ⟨w.heap.size + 1, 2, none⟩ = some (.slice b2 m4 e2)) := fun wx hx => by
    have r1 : wx.heap[w.heap.size]? = some (.cells #[.int .u64 (n64 E), .slice a1 m1 c1, .slice a2 m2 c2] 26 (0, 0)) := by rw [hx.block _ (by simp; omega)]; exact heap_alloc2_old w _ _
    have r2 : wx.heap[w.heap.size + 1]? = some (.cells #[.int .u64 (n64 E), .slice b1 m3 e1, .slice b2 m4 e2] 26 (0, 0)) := by rw [hx.block _ (by simp)]; exact heap_alloc2_new w _ _
    exact ⟨⟨cell_of_row wx _ 0 _ _ _ r1, cell_of_row wx _ 1 _ _ _ r1, cell_of_row wx _ 2 _ _ _ r1⟩, cell_of_row wx _ 0 _ _ _ r2, cell_of_row wx _ 1 _ _ _ r2, cell_of_row wx _ 2 _ _ _ r2⟩
  have cP : Hid (∀ wx, Below ((w.alloc (.cells #[.int .u64 (n64 E), .slice a1 m1 c1, .slice a2 m2 c2] 26)).alloc (.cells #[.int .u64 (n64 E), .slice b1 m3 e1, .slice b2 m4 e2] 26)).heap.size ((w.alloc (.cells #[.int .u64 (n64 E), .slice a1 m1 c1, .slice a2 m2 c2] 26)).alloc (.cells #[.int .u64 (n64 E), .slice b1 m3 e1, .slice b2 m4 e2] 26)) wx → Calls Tryz.prog 17 #[.slice a1 m1 c1, .slice b1 m3 e1] wx fun e w' => e = .returned (.bool true) ∧ Below wx.heap.size wx w') := fun wx hx => by
    have hy := HB1.out.trans (hx.mono HB1.out.size)
    exact lparts_c _ _ L M D hl wx (HA.out.segs.later hy rfl) (HB.out.segs.later hy rfl) HL.out (HDA.out.later hy) (HDB.out.later hy)
  have cN : Hid (∀ wx, Below ((w.alloc (.cells #[.int .u64 (n64 E), .slice a1 m1 c1, .slice a2 m2 c2] 26)).alloc (.cells #[.int .u64 (n64 E), .slice b1 m3 e1, .slice b2 m4 e2] 26)).heap.size ((w.alloc (.cells #[.int .u64 (n64 E), .slice a1 m1 c1, .slice a2 m2 c2] 26)).alloc (.cells #[.int .u64 (n64 E), .slice b1 m3 e1, .slice b2 m4 e2] 26)) wx → Calls Tryz.prog 18 #[.slice a2 m2 c2, .slice b2 m4 e2] wx fun e w' => e = .returned (.bool true) ∧ Below wx.heap.size wx w') := fun wx hx => by
    have hy := HB1.out.trans (hx.mono HB1.out.size)
    rw [hm4]
    exact lnames_c _ _ N hn wx (HA.out.syms.later hy rfl) (HB.out.syms.later hy rfl)
  rw [show Value.slice b2 m2 e2 = Value.slice b2 m4 e2 by rw [hm4]]
  clear ha hb hal hda hdb hm1 hm2 hm3 hm4
  have HZ : Hid (w.heap.size ≤ ((w.alloc (.cells #[.int .u64 (n64 E), .slice a1 m1 c1, .slice a2 m2 c2] 26)).alloc (.cells #[.int .u64 (n64 E), .slice b1 m3 e1, .slice b2 m4 e2] 26)).heap.size) := HB1.out.size
  go_enter Tryz.func10, Tryz.ntmps10
  go_upto_region 1 with fail
  obtain ⟨g1, hg1⟩ : ∃ g1, g1 = w.heap.size := ⟨_, rfl⟩
  obtain ⟨g2, hg2⟩ : ∃ g2, g2 = w.heap.size + 1 := ⟨_, rfl⟩
  have HG : Hid (g1 = w.heap.size) := hg1
  rw [← hg2, ← hg1] at k0 ⊢
  clear hg1 hg2
  generalize ((w.alloc (.cells #[.int .u64 (n64 E), .slice a1 m1 c1, .slice a2 m2 c2] 26)).alloc (.cells #[.int .u64 (n64 E), .slice b1 m3 e1, .slice b2 m4 e2] 26)) = W2 at *
  obtain ⟨⟨q0, q1, q2⟩, p0, p1, p2⟩ := k0.out W2 (Below.refl _ _)
  --@CUT
  go_wp2_with (first | (go_at_call 17; refine (cP.out _ (Below.refl _ _)).mono ?_; rintro e w3 ⟨rfl, hb3⟩; have HB3 : Hid (Below W2.heap.size W2 w3) := hb3; obtain ⟨⟨q0, q1, q2⟩, p0, p1, p2⟩ := k0.out w3 hb3; clear hb3) | (go_at_call 18; refine (cN.out _ HB3.out).mono ?_; rintro e w4 ⟨rfl, hb4⟩; have HB4 : Hid (Below W2.heap.size W2 w4) := HB3.out.trans (hb4.mono HB3.out.size); clear hb4))
  go_ret
  exact ⟨rfl, HB1.out.trans (HB4.out.mono HZ.out)⟩
theorem bv_append (a b : List Int) : bv (a ++ b) = bv a ++ bv b := by simp [bv]
/-- What lies below B has stayed as it was, and so have all rows that are no bytes. -/
structure Fr (B : Nat) (w w' : World) : Prop where
  b : Below B w w'
  k : ∀ (g : Nat) (cur : Array Value) (t : TypeId) (z : Nat × Nat), t ≠ 5 → w.heap[g]? = some (Obj.cells cur t z) → w'.heap[g]? = some (Obj.cells cur t z)
theorem Fr.refl (B : Nat) (w : World) : Fr B w w := ⟨Below.refl _ _, fun _ _ _ _ _ h => h⟩
theorem Fr.trans {B : Nat} {w w' w'' : World} (h : Fr B w w') (k : Fr B w' w'') : Fr B w w'' := ⟨h.b.trans k.b, fun g cur t z ht hg => k.k g cur t z ht (h.k g cur t z ht hg)⟩
theorem Fr.alloc {B : Nat} {w w' : World} (h : Fr B w w') (hB : B ≤ w'.heap.size) (o : Obj) : Fr B w (w'.alloc o) :=
  ⟨h.b.alloc hB o, fun g cur t z ht hg => by
    have h1 := h.k g cur t z ht hg
    rw [Below.heap_alloc w' o g (Array.getElem?_eq_some_iff.1 h1).1]; exact h1⟩
theorem Fr.grown {B n : Nat} {w w' : World} {v : Value} {xs : List Value} (ho : w.ownsRow B 5 1 v n xs) (hB : B ≤ w.heap.size) (hg : w.grownBy w' v.ownBlock) : Fr B w w' :=
  ⟨(Below.refl _ _).grown hg hB (fun k hk => (ho.lt k hk).1), fun g cur t z ht h => by
    rw [hg.block g (Array.getElem?_eq_some_iff.1 h).1 (fun e => ?_)]
    · exact h
    · obtain ⟨c, fz, h2⟩ := Go.Lib.ownsRow_kind ho g e.symm
      rw [h] at h2
      simp at h2
      exact ht h2.2.1⟩
theorem Fr.of {B : Nat} {w w' : World} (h : Below w.heap.size w w') (hB : B ≤ w.heap.size) : Fr B w w' := ⟨h.mono hB, fun g cur t z ht hg => by
  rw [h.block g (Array.getElem?_eq_some_iff.1 hg).1]; exact hg⟩
/-- A list of bytes of one's own. -/
def Owb (B : Nat) (w : World) (v : Value) (l : List Int) : Prop := w.ownsRow B 5 1 v l.length (bv l)
/-- Bytes appended to a list of the call's own. -/
theorem appM {ops : Array Oper} {rest : List Oper} {o : Oper} {a : Act} {w : World} {Q : Exit → Act → World → Prop} (hgd : o.guard = none) (s x : Operand) (ho : o.op = .call { callee := .builtin .append, args := #[s, x], argTypes := #[29, 29] })
    (B : Nat) (v u : Value) (m l : List Int) (hs : a.eval s = v) (hown : w.ownsRow B 5 1 v m.length (bv m)) (hx : a.eval x = u) (hu : Byt w u l) (hl : m.length + l.length ≤ 140737488355328) (hB : B ≤ w.heap.size)
    (h : ∀ v' w', w'.ownsRow B 5 1 v' (m ++ l).length (bv (m ++ l)) → w.grownBy w' v.ownBlock → wpList Tryz.prog ops Q rest (a.put o.dst v') w') :
    wpList Tryz.prog ops Q (o :: rest) a w := by
  obtain ⟨i0, hi, hz0, hz1, hz2⟩ := info_parts info5
  obtain ⟨ao, cap, rfl, h1, h1', h2⟩ := hu
  cases ao with
  | none =>
    have hc := h1' rfl
    have hl0 : l = [] := List.eq_nil_of_length_eq_zero (by omega)
    subst hl0; subst hc
    refine wpList_append_own_none hgd s x 29 ho B 5 i0 1 Tryz.underlying29 hi v m.length (bv m) hs hown hx ?_
    exact h _ _ (by simpa using hown) (World.grownBy.refl _ _)
  | some ad =>
    refine wpList_append_own _ hgd s x 29 ho B 5 i0 (.int .u8 0) 1 1 Tryz.underlying29 hi hz0 hz1 hz2 rfl (by decide) v m.length (bv m) hs hown ad l.length cap (bv l) hx (by simp [bv]) ?_ ?_ (by unfold maxLen; omega) (by omega) hB ?_
    · intro j w2 hj
      have hjl : j < l.length := by have := (List.getElem?_eq_some_iff.1 hj).1; simpa [bv] using this
      obtain ⟨g, off, he, h3, h4⟩ := h2 (by intro e; rw [e] at hjl; simp at hjl)
      cases he
      rw [bv_get _ _ hjl] at hj
      cases hj
      rw [addAt]
      exact h4 j hjl
    · intro w2 hw2; simp [bv] at hw2; obtain ⟨q, _, rfl⟩ := hw2; rfl
    · intro v' w' g1 g2 g3
      exact h v' w' (by simpa [bv] using g1) g2
/-- Some bytes appended, out of a new block. -/
theorem appB {ops : Array Oper} {rest : List Oper} {o : Oper} {a : Act} {w : World} {Q : Exit → Act → World → Prop} (hgd : o.guard = none) (s x : Operand) (ho : o.op = .call { callee := .builtin .append, args := #[s, x], argTypes := #[29, 29] })
    (B : Nat) (vb : Value) (lb m : List Int) (hs : a.eval s = vb) (hp : Owb B w vb lb) (h0 n : Nat) (hn : n = m.length) (hx : a.eval x = .slice (some ⟨h0, 0, none⟩) n n) (hh0 : h0 = w.heap.size) (hl : lb.length + m.length < 140737488355328) (hB : B ≤ w.heap.size)
    (h : ∀ v' w', Owb B w' v' (lb ++ m) → Fr B w w' → wpList Tryz.prog ops Q rest (a.put o.dst v') w') :
    wpList Tryz.prog ops Q (o :: rest) a (w.alloc (.cells (bv m).toArray 5)) := by
  subst hh0
  subst hn
  obtain ⟨i0, hi, hz0, hz1, hz2⟩ := info_parts info5
  refine wpList_append_own _ hgd s x 29 ho B 5 i0 (.int .u8 0) 1 1 Tryz.underlying29 hi hz0 hz1 hz2 rfl (by decide) vb lb.length (bv lb) hs (World.ownsRow.alloc hp _) ⟨w.heap.size, 0, none⟩ m.length m.length (bv m) hx (by simp [bv]) ?_ ?_ (by unfold maxLen; omega) (by omega) (by simp; omega) ?_
  · intro j u hj
    rw [addAt, Nat.zero_add, cell_of_row _ _ _ _ _ _ (heap_alloc_new w _), List.getElem?_toArray]; exact hj
  · intro u hu; simp [bv] at hu; obtain ⟨q, _, rfl⟩ := hu; rfl
  · intro v' w' h1 h2 _
    have hg : w.grownBy w' vb.ownBlock := ⟨h2.os, h2.tape, h2.output, Nat.le_trans (by simp) h2.size, fun k hk hne => (h2.block k (by simp; omega) hne).trans (Below.heap_alloc w _ k hk)⟩
    exact h v' w' (by unfold Owb; simpa [bv] using h1) (Fr.grown hp hB hg)
/-- Bytes appended, wherever they lie. -/
theorem appZ {ops : Array Oper} {rest : List Oper} {o : Oper} {a : Act} {w : World} {Q : Exit → Act → World → Prop} (hgd : o.guard = none) (s x : Operand) (ho : o.op = .call { callee := .builtin .append, args := #[s, x], argTypes := #[29, 29] })
    (B : Nat) (v u : Value) (m l : List Int) (hs : a.eval s = v) (hown : Owb B w v m) (hx : a.eval x = u) (hu : Byt w u l) (hl : m.length + l.length ≤ 140737488355328) (hB : B ≤ w.heap.size)
    (h : ∀ v' w', Owb B w' v' (m ++ l) → Fr B w w' → wpList Tryz.prog ops Q rest (a.put o.dst v') w') :
    wpList Tryz.prog ops Q (o :: rest) a w :=
  appM hgd s x ho B v u m l hs hown hx hu hl hB fun v' w' h1 h2 => h v' w' h1 (Fr.grown hown hB h2)
theorem elemB : Tryz.prog.elem 29 = 5 := by kernel_rfl
theorem undB : Tryz.prog.underlying 29 = some (.slice (Tryz.prog.elem 29)) := by rw [elemB]; exact Tryz.underlying29
theorem sizeB (w : World) : (Go.sizeOf 5).run Tryz.prog w = .ok 1 w := by kernel_rfl
section
variable (W : World) (a : Option Addr) (len cap : Nat)
theorem sl_h (h : Nat) (h2 : h ≤ cap) : (Instr.slice 29 (.slice a len cap) none (some (.int .i64 (h : Int))) none).run Tryz.prog W = .ok (.slice (if cap = 0 then a else a.map (fun x => x.add 0)) h cap) W := by
  rw [run_slice_h W _ _ _ _ undB .i64 _ (by omega) (by omega), elemB, sizeB]
  simp [Result.andThen, sliced]
end
/-- A part of bytes in memory. -/
theorem Byt.cut {w : World} {a : Option Addr} {len cap : Nat} {b : List Int} (h : Byt w (.slice a len cap) b) (l e m : Nat) (h0 : l ≤ e) (h1 : e ≤ m) (h2 : m ≤ cap) (h3 : e ≤ b.length) : Byt w (.slice (if m = l then a else a.map (fun x => x.add l)) (e - l) (m - l)) ((b.drop l).take (e - l)) := by
  obtain ⟨a', cap', e', k1, k2, k3⟩ := h
  cases e'
  have hl : ((b.drop l).take (e - l)).length = e - l := by simp; omega
  refine ⟨if m = l then a else a.map (fun x => x.add l), m - l, by rw [hl], by rw [hl]; omega, fun he => ?_, fun hne => ?_⟩
  · by_cases e : m = l
    · omega
    · rw [if_neg e] at he
      have : a = none := by cases a <;> simp_all
      have := k2 this
      omega
  · have hn : l < e := by
      rcases Nat.lt_or_ge l e with q | q
      · exact q
      · rw [show e - l = 0 by omega] at hne; simp at hne
    obtain ⟨g, off, rfl, h4, h5⟩ := k3 (by intro e; rw [e] at h3; simp at h3; omega)
    rw [if_neg (by omega)]
    refine ⟨g, off + l, by simp [addAt], h4, fun j hj => ?_⟩
    rw [hl] at hj
    rw [Nat.add_assoc, h5 _ (by omega)]
    simp [hj]
/-- The marks behind a loose list. -/
def mks (k : Nat) : List Int := (List.range k).map fun i : Nat => (128 + (i : Int))
theorem mks_succ (k : Nat) : mks (k + 1) = mks k ++ [128 + (k : Int)] := by simp [mks, List.range_succ]
theorem mks_length (k : Nat) : (mks k).length = k := by simp [mks]
theorem mks_get (k j : Nat) (h : j < k) : (mks k).getD j 0 = 128 + (j : Int) := by simp [mks, h]
end Go.Proofs.YtopddflnahfomaaGreatDoor
namespace Go.Proofs.YtopddflnahfomaaGreatDoor
set_option linter.unusedVariables false
open Go.ChangeShapes Go.WideShapes Go.ChangeAt Go.RowKit Go.Deep
/-- The lowest n bytes of a number. -/
def ptL (N n : Nat) : List Int := (List.range n).map fun j => ((N / 256 ^ j % 256 : Nat) : Int)
theorem ptL_length (N n : Nat) : (ptL N n).length = n := by simp [ptL]
theorem ptL_get (N n j : Nat) (h : j < n) : (ptL N n).getD j 0 = ((N / 256 ^ j % 256 : Nat) : Int) := by simp [ptL, h]
theorem ptL_succ (N n : Nat) : ptL N (n + 1) = ptL N n ++ [((N / 256 ^ n % 256 : Nat) : Int)] := by simp [ptL, List.range_succ]
/-- The first list begins with 127; the second is none or begins with 0: so they lie apart. -/
structure Pr (B : Nat) (w : World) (vb : Value) (lb : List Int) (vt : Value) (lt : List Int) : Prop where
  b : w.ownsRow B 5 1 vb lb.length (bv lb)
  t : w.ownsRow B 5 1 vt lt.length (bv lt)
  h : lb.head? = some 127
  k : vt = .slice none 0 0 ∨ lt.head? = some 0
theorem Pr.first {B : Nat} {w : World} {v : Value} {l : List Int} (h : w.ownsRow B 5 1 v l.length (bv l)) {x : Int} (hx : l.head? = some x) {g : Nat} (hg : v.ownBlock = some g) : w.cell? ⟨g, 0, none⟩ = some (.int .u8 x) := by
  have := h.cells hg 0 (.int .u8 x) (by cases l with | nil => simp at hx | cons y l => simp at hx; subst hx; rfl)
  simpa [addAt] using this
theorem Pr.ne {B : Nat} {w : World} {vb vt : Value} {lb lt : List Int} (h : Pr B w vb lb vt lt) : vt.ownBlock = none ∨ vt.ownBlock ≠ vb.ownBlock := by
  rcases h.k with rfl | hk
  · exact .inl rfl
  · cases hv : vt.ownBlock with
    | none => exact .inl rfl
    | some g =>
      right
      intro e
      have h1 := Pr.first h.t hk hv
      have h2 := Pr.first h.b h.h e.symm
      rw [h1] at h2
      simp at h2
theorem Pr.ne' {B : Nat} {w : World} {vb vt : Value} {lb lt : List Int} (h : Pr B w vb lb vt lt) : vb.ownBlock = none ∨ vb.ownBlock ≠ vt.ownBlock := by
  rcases h.ne with e | e
  · cases hb : vb.ownBlock with
    | none => exact .inl rfl
    | some g => exact .inr (by rw [e]; simp)
  · exact .inr (Ne.symm e)
theorem Pr.growB {B : Nat} {w w' : World} {vb vt vb' : Value} {lb lt m : List Int} (h : Pr B w vb lb vt lt) (hg : w.grownBy w' vb.ownBlock) (ho : w'.ownsRow B 5 1 vb' (lb ++ m).length (bv (lb ++ m))) : Pr B w' vb' (lb ++ m) vt lt :=
  ⟨ho, h.t.kept hg h.ne, by cases lb with | nil => exact absurd h.h (by simp) | cons x lb => exact h.h, h.k⟩
theorem Pr.growT {B : Nat} {w w' : World} {vb vt vt' : Value} {lb lt m : List Int} (h : Pr B w vb lb vt lt) (hl : lt.head? = some 0) (hg : w.grownBy w' vt.ownBlock) (ho : w'.ownsRow B 5 1 vt' (lt ++ m).length (bv (lt ++ m))) : Pr B w' vb lb vt' (lt ++ m) :=
  ⟨h.b.kept hg h.ne', ho, h.h, .inr (by cases lt with | nil => exact absurd hl (by simp) | cons x lt => exact hl)⟩
/-- One byte appended to the first list. -/
theorem appPb {ops : Array Oper} {rest : List Oper} {o : Oper} {a : Act} {w : World} {Q : Exit → Act → World → Prop} (hgd : o.guard = none) (s x : Operand) (ho : o.op = .call { callee := .builtin .append, args := #[s, x], argTypes := #[29, 29] })
    (B : Nat) (vb vt : Value) (lb lt : List Int) (b : Int) (hs : a.eval s = vb) (hp : Pr B w vb lb vt lt) (h0 : Nat) (hx : a.eval x = .slice (some ⟨h0, 0, none⟩) 1 1) (hh0 : h0 = w.heap.size) (hl : lb.length < 1000000) (hB : B ≤ w.heap.size)
    (h : ∀ v' w', Pr B w' v' (lb ++ [b]) vt lt → Fr B w w' → wpList Tryz.prog ops Q rest (a.put o.dst v') w') :
    wpList Tryz.prog ops Q (o :: rest) a (w.alloc (.cells #[.int .u8 b] 5)) := by
  subst hh0
  obtain ⟨i0, hi, hz0, hz1, hz2⟩ := info_parts info5
  refine wpList_append_own _ hgd s x 29 ho B 5 i0 (.int .u8 0) 1 1 Tryz.underlying29 hi hz0 hz1 hz2 rfl (by decide) vb lb.length (bv lb) hs (hp.b.alloc _) ⟨w.heap.size, 0, none⟩ 1 1 [.int .u8 b] hx rfl ?_ ?_ (by unfold maxLen; omega) (by omega) (by simp; omega) ?_
  · intro j u hj
    match j, hj with
    | 0, hj => simp at hj; subst hj; simp [Addr.add]
  · intro u hu; simp at hu; subst hu; rfl
  · intro v' w' h1 h2 _
    have hg : w.grownBy w' vb.ownBlock := ⟨h2.os, h2.tape, h2.output, Nat.le_trans (by simp) h2.size, fun k hk hne => (h2.block k (by simp; omega) hne).trans (Below.heap_alloc w _ k hk)⟩
    exact h v' w' (hp.growB hg (by simpa [bv] using h1)) (Fr.grown hp.b hB hg)
theorem rnum_fin {w wr : World} {B N k n : Nat} {v vt : Value} {lb lt : List Int} (hk : k = n) (hp : Pr B wr v (lb ++ ptL N k) vt lt) (hb : Fr B w wr) :
    ∃ u, Ending.returned v = .returned u ∧ Pr B wr u (lb ++ ptL N n) vt lt ∧ Fr B w wr := by
  subst hk
  exact ⟨v, rfl, hp, hb⟩
end Go.Proofs.YtopddflnahfomaaGreatDoor
namespace Go.Proofs.YtopddflnahfomaaGreatDoor
set_option linter.unusedVariables false
open Go.ChangeShapes Go.WideShapes Go.ChangeAt Go.RowKit Go.Deep
def zs (n : Nat) : List Int := List.replicate n 0
theorem zs_length (n : Nat) : (zs n).length = n := by simp [zs]
theorem zs_succ (n : Nat) : zs (n + 1) = zs n ++ [0] := by simp [zs, List.replicate_succ']
theorem lenInt_own {B : Nat} {w : World} {v : Value} {l : List Int} (h : w.ownsRow B 5 1 v l.length (bv l)) : ∃ a c, v = .slice a l.length c := by
  rcases h.2 with ⟨h1, h2⟩ | ⟨g, cap, cur, h1, _⟩
  · exact ⟨none, 0, by rw [h1, h2]⟩
  · exact ⟨_, cap, h1⟩
theorem pad_fin {w wr : World} {B k n : Nat} {v vt : Value} {lb lt : List Int} (hk : k = n) (hp : Pr B wr v (lb ++ zs k) vt lt) (hb : Fr B w wr) :
    ∃ u, Ending.returned v = .returned u ∧ Pr B wr u (lb ++ zs n) vt lt ∧ Fr B w wr := by
  subst hk
  exact ⟨v, rfl, hp, hb⟩
/-- A section header of 64 bytes. -/
def secL (name kind at_ size link info align entry : Nat) : List Int :=
  ptL name 4 ++ (ptL kind 4 ++ (ptL 0 8 ++ (ptL 0 8 ++ (ptL at_ 8 ++ (ptL size 8 ++ (ptL link 4 ++ (ptL info 4 ++ (ptL align 8 ++ ptL entry 8))))))))
theorem secL_length (name kind at_ size link info align entry : Nat) : (secL name kind at_ size link info align entry).length = 64 := by simp [secL, ptL_length]
end Go.Proofs.YtopddflnahfomaaGreatDoor
