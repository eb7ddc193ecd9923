/-
  Iya Iyb.
-/
import Derived.Test.YtheeogbmljjbdaaGreatDoorN15
import Derived.Test.YtheeogbmljjbdaaGreatDoorN25
import Derived.Lib.OwnKind
import Derived.Maps.AppendAt
import Derived.BigQuiet
import Derived.Deep.QuietTactic
namespace Go.Proofs.YtheeogbmljjbdaaGreatDoor
set_option linter.unusedVariables false
set_option maxRecDepth 100000
open Go.ChangeShapes Go.WideShapes Go.ChangeAt Go.RowKit Go.Deep
/-- The bytes of the parts. -/
def Dta (w : World) (L : List Sg) (D : Nat → List Int) : Prop := ∀ j, j < L.length → (D j).length = (sg L j).n ∧ Byt w (.slice (sg L j).m (sg L j).n (sg L j).c) (D j)
theorem Dta.later {w w' : World} {L : List Sg} {D : Nat → List Int} (h : Dta w L D) (hb : Below w.heap.size w w') : Dta w' L D := fun j hj => ⟨(h j hj).1, (h j hj).2.later hb rfl⟩
theorem same_true {w : World} {va vb : Value} {l : List Int} (ha : Byt w va l) (hb : Byt w vb l) :
    Calls Tryz.prog 39 #[va, vb] w fun e w' => e = .returned (.bool true) ∧ w' = w := by
  have ca := ha.conv
  have cb := hb.conv
  generalize strOfNums l = s at ca cb
  clear ha hb
  go_enter Tryz.func39, Tryz.ntmps39
  go_wp2
  go_ret
  exact ⟨rfl, rfl⟩
theorem below_drewN {B : Nat} {w w' : World} (h : Below B w w') (n : Nat) : Below B w (w'.drewN n) := ⟨h.os, h.tape, h.output, h.size, h.block⟩
theorem Byt.nil (w : World) : Byt w (.slice none 0 0) [] := ⟨none, 0, rfl, Nat.le_refl _, fun _ => rfl, fun h => absurd rfl h⟩
theorem Byt.drewN {w : World} {v : Value} {l : List Int} (h : Byt w v l) : Byt w.drew v l := h.later (Below.drew (Below.refl _ _)) rfl
theorem Byt.of_own {w : World} {B n : Nat} {v : Value} {l : List Int} (h : w.ownsRow B 5 1 v n (bv l)) : Byt w v l := by
  have hlen := h.1
  rw [bv_len, Nat.mul_one] at hlen
  rcases Go.Joins.ownsRow_forms h with ⟨rfl, h0⟩ | ⟨g, cap, rfl⟩
  · have hl0 : l = [] := List.eq_nil_of_length_eq_zero (by omega)
    subst hl0
    exact Byt.nil w
  · have hcap : n ≤ cap := by
      rcases h.2 with ⟨h', _⟩ | ⟨g', cap', cur, h', _, _, hn, _⟩
      · simp at h'
      · simp only [Value.slice.injEq] at h'; obtain ⟨_, _, rfl⟩ := h'; exact hn
    subst hlen
    exact ⟨some ⟨g, 0, none⟩, cap, rfl, by omega, (fun e => by cases e), fun hne => ⟨g, 0, rfl, (h.lt g rfl).2, fun j hj => by rw [Nat.zero_add, h.cellAt j (by omega), bv_get _ _ hj]⟩⟩
set_option maxRecDepth 100000 in
set_option maxHeartbeats 4000000 in
theorem lparts_c (va vb : Value) (L M : List Sg) (D : Nat → List Int) (hl : L.length ≤ 140737488355328) (w : World) (ha : Sgs w va M) (hb : Sgs w vb L) (hal : Alike L M) (hda : Dta w M D) (hdb : Dta w L D) :
    Calls Tryz.prog 29 #[va, vb] w fun e w' => e = .returned (.bool true) ∧ Below w.heap.size w w' := by
  have HA : Hid (Sgs w va M) := ha
  have HB : Hid (Sgs w vb L) := hb
  have HL : Hid (Alike L M) := hal
  have HDA : Hid (Dta w M D) := hda
  have HDB : Hid (Dta w L D) := hdb
  obtain ⟨aa, ac, rfl, _, _⟩ := ha
  obtain ⟨ba, bc, rfl, _, _⟩ := hb
  rw [hal.len] at HA ⊢
  have hlI : (L.length : Int) ≤ 140737488355328 := by omega
  clear hal hda hdb
  go_enter Tryz.func29, Tryz.ntmps29
  go_wp2
  go_loopw [5] (fun i wr => ∃ k : Nat, k ≤ L.length ∧ i = .int .i64 k ∧ Hid (Below w.heap.size w wr)) (fun i _ => L.length - (intOf i).toNat)
  case atStart => exact ⟨0, Nat.zero_le _, rfl, Below.refl _ _⟩
  case round =>
    obtain ⟨k, hk, rfl, hw⟩ := hrel
    by_cases hlt : k < L.length
    · have hltI : (k : Int) < (L.length : Int) := by omega
      have hMl := HL.out.len
      obtain ⟨_, _, he, _, hcc⟩ := HA.out.later hw.out rfl
      simp only [Value.slice.injEq] at he
      obtain ⟨rfl, _, rfl⟩ := he
      obtain ⟨g, off, rfl, hg, hcells⟩ := hcc (by intro e; rw [e] at hMl; simp only [List.length_nil] at hMl; omega)
      obtain ⟨c0, c1, c2, c3⟩ := hcells k (by omega)
      obtain ⟨_, _, he, _, hcc'⟩ := HB.out.later hw.out rfl
      cases he
      obtain ⟨g', off', rfl, hg', hcells'⟩ := hcc' (by intro e; rw [e] at hlt; exact absurd hlt (Nat.not_lt_zero _))
      obtain ⟨d0, d1, d2, d3⟩ := hcells' k hlt
      rw [HL.out.a k hlt] at c0
      rw [HL.out.s k hlt] at c1
      rw [HL.out.f k hlt] at c2
      have y1 := (HDA.out.later hw.out k (by omega)).2
      have y2 := (HDB.out.later hw.out k hlt).2
      have HY1 : Hid (∀ wx, Below wr.heap.size wr wx → Byt wx (.slice (sg M k).m (sg M k).n (sg M k).c) (D k)) := fun wx hx => y1.later hx rfl
      have HY2 : Hid (∀ wx, Below wr.heap.size wr wx → Byt wx (.slice (sg L k).m (sg L k).n (sg L k).c) (D k)) := fun wx hx => y2.later hx rfl
      clear hcells hcc hg hcells' hcc' hg' y1 y2 hMl
      obtain ⟨A, hA⟩ : ∃ A, A = n64 (sg L k).a := ⟨_, rfl⟩
      obtain ⟨S, hS⟩ : ∃ S, S = n64 (sg L k).s := ⟨_, rfl⟩
      obtain ⟨F, hF⟩ : ∃ F, F = (sg L k).f := ⟨_, rfl⟩
      obtain ⟨x, hx⟩ : ∃ x, x = sg M k := ⟨_, rfl⟩
      rw [← hA] at c0 d0
      rw [← hS] at c1 d1
      rw [← hF] at c2 d2
      rw [← hx] at c3 HY1
      obtain ⟨y, hy⟩ : ∃ y, y = sg L k := ⟨_, rfl⟩
      rw [← hy] at d3 HY2
      clear hA hS hF hx hy
      go_wp2
      --@CUT1
      go_quiet ((first | (go_at_call 39; exact Calls.quiet_of_same (same_true (l := D k) (HY1.out _ (by first | exact Below.refl _ _ | exact Below.drew (Below.refl _ _) | exact below_drewN (Below.refl _ _) _)) (HY2.out _ (by first | exact Below.refl _ _ | exact Below.drew (Below.refl _ _) | exact below_drewN (Below.refl _ _) _)))) | fail))
      go_wp2
      --@CUT2
      go_roundw
      case rel => exact ⟨k + 1, by omega, by go_num, below_drewN hw.out _⟩
      case measure => simp only [intOf]; omega
    · obtain rfl : k = L.length := by omega
      have hltI : ¬ ((L.length : Int) < L.length) := by omega
      go_wp2
      go_ret
      exact ⟨rfl, hw.out⟩
set_option maxRecDepth 100000 in
set_option maxHeartbeats 4000000 in
theorem lnames_c (va vb : Value) (N : List Sy) (hl : N.length ≤ 140737488355328) (w : World) (ha : Sys w va N) (hb : Sys w vb N) :
    Calls Tryz.prog 30 #[va, vb] w fun e w' => e = .returned (.bool true) ∧ Below w.heap.size w w' := by
  have HA : Hid (Sys w va N) := ha
  have HB : Hid (Sys w vb N) := hb
  obtain ⟨aa, ac, rfl, _, _⟩ := ha
  obtain ⟨ba, bc, rfl, _, _⟩ := hb
  have hlI : (N.length : Int) ≤ 140737488355328 := by omega
  go_enter Tryz.func30, Tryz.ntmps30
  go_wp2
  go_loopw [5] (fun i wr => ∃ k : Nat, k ≤ N.length ∧ i = .int .i64 k ∧ Hid (Below w.heap.size w wr)) (fun i _ => N.length - (intOf i).toNat)
  case atStart => exact ⟨0, Nat.zero_le _, rfl, Below.refl _ _⟩
  case round =>
    obtain ⟨k, hk, rfl, hw⟩ := hrel
    by_cases hlt : k < N.length
    · have hltI : (k : Int) < (N.length : Int) := by omega
      obtain ⟨_, _, he, _, hcc⟩ := HA.out.later hw.out rfl
      cases he
      obtain ⟨g, off, rfl, hg, hcells⟩ := hcc (by intro e; rw [e] at hlt; exact absurd hlt (Nat.not_lt_zero _))
      obtain ⟨c0, c1⟩ := hcells k hlt
      obtain ⟨_, _, he, _, hcc'⟩ := HB.out.later hw.out rfl
      cases he
      obtain ⟨g', off', rfl, hg', hcells'⟩ := hcc' (by intro e; rw [e] at hlt; exact absurd hlt (Nat.not_lt_zero _))
      obtain ⟨d0, d1⟩ := hcells' k hlt
      clear hcells hcc hg hcells' hcc' hg'
      obtain ⟨s, hs⟩ : ∃ s, s = (sy N k).s := ⟨_, rfl⟩
      obtain ⟨v, hv⟩ : ∃ v, v = n64 (sy N k).v := ⟨_, rfl⟩
      rw [← hs] at c0 d0
      rw [← hv] at c1 d1
      clear hs hv
      go_wp2
      --@CUT3
      go_quiet (fail)
      go_wp2
      go_roundw
      case rel => exact ⟨k + 1, by omega, by go_num, below_drewN hw.out _⟩
      case measure => simp only [intOf]; omega
    · obtain rfl : k = N.length := by omega
      have hltI : ¬ ((N.length : Int) < N.length) := by omega
      go_wp2
      go_ret
      exact ⟨rfl, hw.out⟩
/-- An image's two lists. -/
structure Imq (w : World) (vs vn : Value) (L : List Sg) (N : List Sy) : Prop where
  segs : Sgs w vs L
  syms : Sys w vn N
set_option maxRecDepth 100000 in
set_option maxHeartbeats 4000000 in
theorem alike_c (E : BitVec 64) (va vna vb vnb : Value) (L M : List Sg) (N : List Sy) (D : Nat → List Int) (hl : L.length ≤ 140737488355328) (hn : N.length ≤ 140737488355328) (w : World) (ha : Imq w va vna M N) (hb : Imq w vb vnb L N) (hal : Alike L M) (hda : Dta w M D) (hdb : Dta w L D) :
    Calls Tryz.prog 15 #[.agg #[.int .u64 (n64 E), va, vna], .agg #[.int .u64 (n64 E), vb, vnb]] w fun e w' => e = .returned (.bool true) ∧ Below w.heap.size w w' := by
  have HA : Hid (Imq w va vna M N) := ha
  have HB : Hid (Imq w vb vnb L N) := hb
  have HL : Hid (Alike L M) := hal
  have HDA : Hid (Dta w M D) := hda
  have HDB : Hid (Dta w L D) := hdb
  obtain ⟨a1, c1, rfl, _, _⟩ := ha.segs
  obtain ⟨a2, c2, rfl, _, _⟩ := ha.syms
  obtain ⟨b1, e1, rfl, _, _⟩ := hb.segs
  obtain ⟨b2, e2, rfl, _, _⟩ := hb.syms
  obtain ⟨m1, hm1⟩ : ∃ m, m = M.length := ⟨_, rfl⟩
  obtain ⟨m3, hm3⟩ : ∃ m, m = L.length := ⟨_, rfl⟩
  obtain ⟨m2, hm2⟩ : ∃ m, m = N.length := ⟨_, rfl⟩
  rw [← hm1, ← hm2] at HA ⊢
  rw [← hm3] at HB ⊢
  rw [← hm2] at HB
  obtain ⟨m4, hm4⟩ : ∃ m, m = m2 := ⟨_, rfl⟩
  have HB1 : Hid (Below w.heap.size w ((w.alloc (.cells #[.int .u64 (n64 E), .slice a1 m1 c1, .slice a2 m2 c2] 26)).alloc (.cells #[.int .u64 (n64 E), .slice b1 m3 e1, .slice b2 m4 e2] 26))) := ((Below.refl _ _).alloc (Nat.le_refl _) _).alloc (by simp) _
  have k0 : Hid (∀ wx, Below ((w.alloc (.cells #[.int .u64 (n64 E), .slice a1 m1 c1, .slice a2 m2 c2] 26)).alloc (.cells #[.int .u64 (n64 E), .slice b1 m3 e1, .slice b2 m4 e2] 26)).heap.size ((w.alloc (.cells #[.int .u64 (n64 E), .slice a1 m1 c1, .slice a2 m2 c2] 26)).alloc (.cells #[.int .u64 (n64 E), .slice b1 m3 e1, .slice b2 m4 e2] 26)) wx → (wx.cell? ⟨w.heap.size, 0, none⟩ = some (.int .u64 (n64 E)) ∧ wx.cell? ⟨w.heap.size, 1, none⟩ = some (.slice a1 m1 c1) ∧ wx.cell? ⟨w.heap.size, 2, none⟩ = some (.slice a2 m2 c2)) ∧ wx.cell? ⟨w.heap.size + 1, 0, none⟩ = some (.int .u64 (n64 E)) ∧ wx.cell? ⟨w.heap.size + 1, 1, none⟩ = some (.slice b1 m3 e1) ∧ wx.cell? ⟨w.heap.size + 1, 2, none⟩ = some (.slice b2 m4 e2)) := fun wx hx => by
    have r1 : wx.heap[w.heap.size]? = some (.cells #[.int .u64 (n64 E), .slice a1 m1 c1, .slice a2 m2 c2] 26 (0, 0)) := by rw [hx.block _ (by simp; omega)]; exact heap_alloc2_old w _ _
    have r2 : wx.heap[w.heap.size + 1]? = some (.cells #[.int .u64 (n64 E), .slice b1 m3 e1, .slice b2 m4 e2] 26 (0, 0)) := by rw [hx.block _ (by simp)]; exact heap_alloc2_new w _ _
    exact ⟨⟨cell_of_row wx _ 0 _ _ _ r1, cell_of_row wx _ 1 _ _ _ r1, cell_of_row wx _ 2 _ _ _ r1⟩, cell_of_row wx _ 0 _ _ _ r2, cell_of_row wx _ 1 _ _ _ r2, cell_of_row wx _ 2 _ _ _ r2⟩
  have cP : Hid (∀ wx, Below ((w.alloc (.cells #[.int .u64 (n64 E), .slice a1 m1 c1, .slice a2 m2 c2] 26)).alloc (.cells #[.int .u64 (n64 E), .slice b1 m3 e1, .slice b2 m4 e2] 26)).heap.size ((w.alloc (.cells #[.int .u64 (n64 E), .slice a1 m1 c1, .slice a2 m2 c2] 26)).alloc (.cells #[.int .u64 (n64 E), .slice b1 m3 e1, .slice b2 m4 e2] 26)) wx → Calls Tryz.prog 29 #[.slice a1 m1 c1, .slice b1 m3 e1] wx fun e w' => e = .returned (.bool true) ∧ Below wx.heap.size wx w') := fun wx hx => by
    have hy := HB1.out.trans (hx.mono HB1.out.size)
    exact lparts_c _ _ L M D hl wx (HA.out.segs.later hy rfl) (HB.out.segs.later hy rfl) HL.out (HDA.out.later hy) (HDB.out.later hy)
  have cN : Hid (∀ wx, Below ((w.alloc (.cells #[.int .u64 (n64 E), .slice a1 m1 c1, .slice a2 m2 c2] 26)).alloc (.cells #[.int .u64 (n64 E), .slice b1 m3 e1, .slice b2 m4 e2] 26)).heap.size ((w.alloc (.cells #[.int .u64 (n64 E), .slice a1 m1 c1, .slice a2 m2 c2] 26)).alloc (.cells #[.int .u64 (n64 E), .slice b1 m3 e1, .slice b2 m4 e2] 26)) wx → Calls Tryz.prog 30 #[.slice a2 m2 c2, .slice b2 m4 e2] wx fun e w' => e = .returned (.bool true) ∧ Below wx.heap.size wx w') := fun wx hx => by
    have hy := HB1.out.trans (hx.mono HB1.out.size)
    rw [hm4]
    exact lnames_c _ _ N hn wx (HA.out.syms.later hy rfl) (HB.out.syms.later hy rfl)
  rw [show Value.slice b2 m2 e2 = Value.slice b2 m4 e2 by rw [hm4]]
  clear ha hb hal hda hdb hm1 hm2 hm3 hm4
  have HZ : Hid (w.heap.size ≤ ((w.alloc (.cells #[.int .u64 (n64 E), .slice a1 m1 c1, .slice a2 m2 c2] 26)).alloc (.cells #[.int .u64 (n64 E), .slice b1 m3 e1, .slice b2 m4 e2] 26)).heap.size) := HB1.out.size
  go_enter Tryz.func15, Tryz.ntmps15
  go_upto_region 1 with fail
  obtain ⟨g1, hg1⟩ : ∃ g1, g1 = w.heap.size := ⟨_, rfl⟩
  obtain ⟨g2, hg2⟩ : ∃ g2, g2 = w.heap.size + 1 := ⟨_, rfl⟩
  have HG : Hid (g1 = w.heap.size) := hg1
  rw [← hg2, ← hg1] at k0 ⊢
  clear hg1 hg2
  generalize ((w.alloc (.cells #[.int .u64 (n64 E), .slice a1 m1 c1, .slice a2 m2 c2] 26)).alloc (.cells #[.int .u64 (n64 E), .slice b1 m3 e1, .slice b2 m4 e2] 26)) = W2 at *
  obtain ⟨⟨q0, q1, q2⟩, p0, p1, p2⟩ := k0.out W2 (Below.refl _ _)
  --@CUT
  go_wp2_with (first | (go_at_call 29; refine (cP.out _ (Below.refl _ _)).mono ?_; rintro e w3 ⟨rfl, hb3⟩; have HB3 : Hid (Below W2.heap.size W2 w3) := hb3; obtain ⟨⟨q0, q1, q2⟩, p0, p1, p2⟩ := k0.out w3 hb3; clear hb3) | (go_at_call 30; refine (cN.out _ HB3.out).mono ?_; rintro e w4 ⟨rfl, hb4⟩; have HB4 : Hid (Below W2.heap.size W2 w4) := HB3.out.trans (hb4.mono HB3.out.size); clear hb4))
  go_ret
  exact ⟨rfl, HB1.out.trans (HB4.out.mono HZ.out)⟩
theorem bv_append (a b : List Int) : bv (a ++ b) = bv a ++ bv b := by simp [bv]
/-- What lies below B has stayed as it was, and so have all rows that are no bytes. -/
structure Fr (B : Nat) (w w' : World) : Prop where
  b : Below B w w'
  k : ∀ (g : Nat) (cur : Array Value) (t : TypeId) (z : Nat × Nat), t ≠ 5 → w.heap[g]? = some (Obj.cells cur t z) → w'.heap[g]? = some (Obj.cells cur t z)
theorem Fr.refl (B : Nat) (w : World) : Fr B w w := ⟨Below.refl _ _, fun _ _ _ _ _ h => h⟩
theorem Fr.trans {B : Nat} {w w' w'' : World} (h : Fr B w w') (k : Fr B w' w'') : Fr B w w'' := ⟨h.b.trans k.b, fun g cur t z ht hg => k.k g cur t z ht (h.k g cur t z ht hg)⟩
theorem Fr.alloc {B : Nat} {w w' : World} (h : Fr B w w') (hB : B ≤ w'.heap.size) (o : Obj) : Fr B w (w'.alloc o) :=
  ⟨h.b.alloc hB o, fun g cur t z ht hg => by
    have h1 := h.k g cur t z ht hg
    rw [Below.heap_alloc w' o g (Array.getElem?_eq_some_iff.1 h1).1]; exact h1⟩
theorem Fr.grown {B n : Nat} {w w' : World} {v : Value} {xs : List Value} (ho : w.ownsRow B 5 1 v n xs) (hB : B ≤ w.heap.size) (hg : w.grownBy w' v.ownBlock) : Fr B w w' :=
  ⟨(Below.refl _ _).grown hg hB (fun k hk => (ho.lt k hk).1), fun g cur t z ht h => by
    rw [hg.block g (Array.getElem?_eq_some_iff.1 h).1 (fun e => ?_)]
    · exact h
    · obtain ⟨c, fz, h2⟩ := Go.Lib.ownsRow_kind ho g e.symm
      rw [h] at h2
      simp at h2
      exact ht h2.2.1⟩
theorem Fr.of {B : Nat} {w w' : World} (h : Below w.heap.size w w') (hB : B ≤ w.heap.size) : Fr B w w' := ⟨h.mono hB, fun g cur t z ht hg => by
  rw [h.block g (Array.getElem?_eq_some_iff.1 hg).1]; exact hg⟩
/-- A list of bytes of one's own. -/
def Owb (B : Nat) (w : World) (v : Value) (l : List Int) : Prop := w.ownsRow B 5 1 v l.length (bv l)
/-- Bytes appended to a list of the call's own. -/
theorem appM {ops : Array Oper} {rest : List Oper} {o : Oper} {a : Act} {w : World} {Q : Exit → Act → World → Prop} (hgd : o.guard = none) (s x : Operand) (ho : o.op = .call { callee := .builtin .append, args := #[s, x], argTypes := #[31, 31] })
    (B : Nat) (v u : Value) (m l : List Int) (hs : a.eval s = v) (hown : w.ownsRow B 5 1 v m.length (bv m)) (hx : a.eval x = u) (hu : Byt w u l) (hl : m.length + l.length ≤ 140737488355328) (hB : B ≤ w.heap.size)
    (h : ∀ v' w', w'.ownsRow B 5 1 v' (m ++ l).length (bv (m ++ l)) → w.grownBy w' v.ownBlock → wpList Tryz.prog ops Q rest (a.put o.dst v') w') :
    wpList Tryz.prog ops Q (o :: rest) a w := by
  obtain ⟨i0, hi, hz0, hz1, hz2⟩ := info_parts info5
  obtain ⟨ao, cap, rfl, h1, h1', h2⟩ := hu
  cases ao with
  | none =>
    have hc := h1' rfl
    have hl0 : l = [] := List.eq_nil_of_length_eq_zero (by omega)
    subst hl0; subst hc
    refine wpList_append_own_none hgd s x 31 ho B 5 i0 1 Tryz.underlying31 hi v m.length (bv m) hs hown hx ?_
    exact h _ _ (by simpa using hown) (World.grownBy.refl _ _)
  | some ad =>
    refine wpList_append_own _ hgd s x 31 ho B 5 i0 (.int .u8 0) 1 1 Tryz.underlying31 hi hz0 hz1 hz2 rfl (by decide) v m.length (bv m) hs hown ad l.length cap (bv l) hx (by simp [bv]) ?_ ?_ (by unfold maxLen; omega) (by omega) hB ?_
    · intro j w2 hj
      have hjl : j < l.length := by have := (List.getElem?_eq_some_iff.1 hj).1; simpa [bv] using this
      obtain ⟨g, off, he, h3, h4⟩ := h2 (by intro e; rw [e] at hjl; simp at hjl)
      cases he
      rw [bv_get _ _ hjl] at hj
      cases hj
      rw [addAt]
      exact h4 j hjl
    · intro w2 hw2; simp [bv] at hw2; obtain ⟨q, _, rfl⟩ := hw2; rfl
    · intro v' w' g1 g2 g3
      exact h v' w' (by simpa [bv] using g1) g2
/-- Some bytes appended, out of a new block. -/
theorem appB {ops : Array Oper} {rest : List Oper} {o : Oper} {a : Act} {w : World} {Q : Exit → Act → World → Prop} (hgd : o.guard = none) (s x : Operand) (ho : o.op = .call { callee := .builtin .append, args := #[s, x], argTypes := #[31, 31] })
    (B : Nat) (vb : Value) (lb m : List Int) (hs : a.eval s = vb) (hp : Owb B w vb lb) (h0 n : Nat) (hn : n = m.length) (hx : a.eval x = .slice (some ⟨h0, 0, none⟩) n n) (hh0 : h0 = w.heap.size) (hl : lb.length + m.length < 140737488355328) (hB : B ≤ w.heap.size)
    (h : ∀ v' w', Owb B w' v' (lb ++ m) → Fr B w w' → wpList Tryz.prog ops Q rest (a.put o.dst v') w') :
    wpList Tryz.prog ops Q (o :: rest) a (w.alloc (.cells (bv m).toArray 5)) := by
  subst hh0
  subst hn
  obtain ⟨i0, hi, hz0, hz1, hz2⟩ := info_parts info5
  refine wpList_append_own _ hgd s x 31 ho B 5 i0 (.int .u8 0) 1 1 Tryz.underlying31 hi hz0 hz1 hz2 rfl (by decide) vb lb.length (bv lb) hs (World.ownsRow.alloc hp _) ⟨w.heap.size, 0, none⟩ m.length m.length (bv m) hx (by simp [bv]) ?_ ?_ (by unfold maxLen; omega) (by omega) (by simp; omega) ?_
  · intro j u hj
    rw [addAt, Nat.zero_add, cell_of_row _ _ _ _ _ _ (heap_alloc_new w _), List.getElem?_toArray]; exact hj
  · intro u hu; simp [bv] at hu; obtain ⟨q, _, rfl⟩ := hu; rfl
  · intro v' w' h1 h2 _
    have hg : w.grownBy w' vb.ownBlock := ⟨h2.os, h2.tape, h2.output, Nat.le_trans (by simp) h2.size, fun k hk hne => (h2.block k (by simp; omega) hne).trans (Below.heap_alloc w _ k hk)⟩
    exact h v' w' (by unfold Owb; simpa [bv] using h1) (Fr.grown hp hB hg)
/-- Bytes appended, wherever they lie. -/
theorem appZ {ops : Array Oper} {rest : List Oper} {o : Oper} {a : Act} {w : World} {Q : Exit → Act → World → Prop} (hgd : o.guard = none) (s x : Operand) (ho : o.op = .call { callee := .builtin .append, args := #[s, x], argTypes := #[31, 31] })
    (B : Nat) (v u : Value) (m l : List Int) (hs : a.eval s = v) (hown : Owb B w v m) (hx : a.eval x = u) (hu : Byt w u l) (hl : m.length + l.length ≤ 140737488355328) (hB : B ≤ w.heap.size)
    (h : ∀ v' w', Owb B w' v' (m ++ l) → Fr B w w' → wpList Tryz.prog ops Q rest (a.put o.dst v') w') :
    wpList Tryz.prog ops Q (o :: rest) a w :=
  appM hgd s x ho B v u m l hs hown hx hu hl hB fun v' w' h1 h2 => h v' w' h1 (Fr.grown hown hB h2)
theorem elemB : Tryz.prog.elem 31 = 5 := by kernel_rfl
theorem undB : Tryz.prog.underlying 31 = some (.slice (Tryz.prog.elem 31)) := by rw [elemB]; exact Tryz.underlying31
theorem sizeB (w : World) : (Go.sizeOf 5).run Tryz.prog w = .ok 1 w := by kernel_rfl
section
variable (W : World) (a : Option Addr) (len cap : Nat)
theorem sl_h (h : Nat) (h2 : h ≤ cap) : (Instr.slice 31 (.slice a len cap) none (some (.int .i64 (h : Int))) none).run Tryz.prog W = .ok (.slice (if cap = 0 then a else a.map (fun x => x.add 0)) h cap) W := by
  rw [run_slice_h W _ _ _ _ undB .i64 _ (by omega) (by omega), elemB, sizeB]
  simp [Result.andThen, sliced]
end
/-- A part of bytes in memory. -/
theorem Byt.cut {w : World} {a : Option Addr} {len cap : Nat} {b : List Int} (h : Byt w (.slice a len cap) b) (l e m : Nat) (h0 : l ≤ e) (h1 : e ≤ m) (h2 : m ≤ cap) (h3 : e ≤ b.length) : Byt w (.slice (if m = l then a else a.map (fun x => x.add l)) (e - l) (m - l)) ((b.drop l).take (e - l)) := by
  obtain ⟨a', cap', e', k1, k2, k3⟩ := h
  cases e'
  have hl : ((b.drop l).take (e - l)).length = e - l := by simp; omega
  refine ⟨if m = l then a else a.map (fun x => x.add l), m - l, by rw [hl], by rw [hl]; omega, fun he => ?_, fun hne => ?_⟩
  · by_cases e : m = l
    · omega
    · rw [if_neg e] at he
      have : a = none := by cases a <;> simp_all
      have := k2 this
      omega
  · have hn : l < e := by
      rcases Nat.lt_or_ge l e with q | q
      · exact q
      · rw [show e - l = 0 by omega] at hne; simp at hne
    obtain ⟨g, off, rfl, h4, h5⟩ := k3 (by intro e; rw [e] at h3; simp at h3; omega)
    rw [if_neg (by omega)]
    refine ⟨g, off + l, by simp [addAt], h4, fun j hj => ?_⟩
    rw [hl] at hj
    rw [Nat.add_assoc, h5 _ (by omega)]
    simp [hj]
/-- The marks behind a loose list. -/
def mks (k : Nat) : List Int := (List.range k).map fun i : Nat => (128 + (i : Int))
theorem mks_succ (k : Nat) : mks (k + 1) = mks k ++ [128 + (k : Int)] := by simp [mks, List.range_succ]
theorem mks_length (k : Nat) : (mks k).length = k := by simp [mks]
theorem mks_get (k j : Nat) (h : j < k) : (mks k).getD j 0 = 128 + (j : Int) := by simp [mks, h]
set_option maxHeartbeats 4000000 in
theorem loose_c (l : List Int) (v : Value) (w : World) (hv : Byt w v l) (hl : l.length ≤ 140737488351232) :
    Calls Tryz.prog 16 #[v] w fun e w' => ∃ u, e = .returned u ∧ Owb w.heap.size w' u (l ++ mks 64) ∧ Below w.heap.size w w' := by
  have HO : Hid ((w.alloc (.cells #[] 5)).ownsRow w.heap.size 5 1 (.slice (some ⟨w.heap.size, 0, none⟩) 0 0) ([] : List Int).length (bv [])) := World.ownsRow_made w #[] 0 (Nat.le_refl _) (Nat.zero_le _) rfl
  have HV := Hid.mkI (hv.later (below_al (.cells #[] 5)) rfl)
  have HF0 : Hid (Fr w.heap.size w (w.alloc (.cells #[] 5))) := (Fr.refl _ _).alloc (Nat.le_refl _) _
  obtain ⟨B, hB⟩ : ∃ B, B = w.heap.size := ⟨_, rfl⟩
  have HB0 := Hid.mkI hB
  have hBs : B ≤ (w.alloc (.cells #[] 5)).heap.size := by rw [hB]; simp
  have HL := Hid.mkI hl
  obtain ⟨a, cap, rfl, _⟩ := hv
  have HO2 : Hid (Owb B (w.alloc (.cells #[] 5)) (.slice (some ⟨w.heap.size, 0, none⟩) 0 0) []) := own_ge HO.out (by rw [hB]; exact Nat.le_refl _) (fun _ _ => rfl)
  rw [← hB] at HF0
  clear hB hl HO
  go_enter Tryz.func16, Tryz.ntmps16
  go_upto_region 2 with (at_builtin; refine appZ (by rfl) _ _ (by rfl) B _ _ [] l (by rfl) HO2.out (by rfl) HV.out (by have := HL.out; simp; omega) hBs ?_; intro v1 W1 ho1 hf1; have HO1 := Hid.mkI ho1; have HF1 := Hid.mkI (HF0.out.trans hf1); clear ho1 hf1)
  rw [List.nil_append] at HO1
  clear HO2 HV HF0 hBs
  go_wp2
  go_loopw [3, 4] (fun v i wr => ∃ k : Nat, k ≤ 64 ∧ i = .int .i64 k ∧ Hid (Owb B wr v (l ++ mks k)) ∧ Hid (Fr B w wr)) (fun _ i _ => 64 - (intOf i).toNat)
  case atStart => exact ⟨0, Nat.zero_le _, rfl, by unfold Hid; rw [show mks 0 = [] from rfl, List.append_nil]; exact HO1.out, HF1⟩
  case round =>
    obtain ⟨k, hk, rfl, ho, hf⟩ := hrel
    clear HO1 HF1
    have hBr : B ≤ wr.heap.size := by rw [HB0.out]; exact hf.out.b.size
    by_cases hlt : k < 64
    · have hlt2 : (k : Int) < 64 := by omega
      have hk0 : (0 : Int) ≤ (k : Int) := by omega
      have hmod : (128 + (k : Int)) % 256 = 128 + (k : Int) := by omega
      have HLL : Hid ((l ++ mks k).length + 1 < 140737488355328) := by have := HL.out; unfold Hid; rw [List.length_append, mks_length]; omega
      go_wp2_with (at_builtin; refine appB (by rfl) _ _ (by rfl) B _ (l ++ mks k) [128 + (k : Int)] (by rfl) ho.out _ 1 (by rfl) (by rfl) (by simp) (by have := HLL.out; simp at this ⊢; omega) hBr ?_; intro v5 w5 ho1 hf1; have HO5 := Hid.mkI ho1; have HG5 := Hid.mkI hf1; clear ho1 hf1)
      go_roundw
      case rel => exact ⟨k + 1, by omega, by go_num, by unfold Hid; rw [mks_succ, ← List.append_assoc]; exact HO5.out, hf.out.trans HG5.out⟩
      case measure => simp [intOf]; omega
    · have hk64 : k = 64 := by omega
      subst hk64
      go_wp2
      go_ret
      exact ⟨_, rfl, by rw [← HB0.out]; exact ho.out, by rw [← HB0.out]; exact hf.out.b⟩
set_option maxHeartbeats 4000000 in
theorem kept_t (l : List Int) (u v : Value) (w : World) (hu : Byt w u (l ++ mks 64)) (hv : Byt w v l) (hl : l.length ≤ 140737488351232) :
    Calls Tryz.prog 19 #[u, v] w fun e w' => e = .returned (.bool true) ∧ w' = w := by
  have hu0 := hu
  obtain ⟨a, cap, e1, hc, _, hcell⟩ := hu
  subst e1
  have hsl := sl_h w a (l ++ mks 64).length cap l.length (by rw [List.length_append] at hc; omega)
  have hcut := hu0.cut 0 l.length cap (Nat.zero_le _) (by rw [List.length_append] at hc; omega) (Nat.le_refl _) (by rw [List.length_append]; omega)
  rw [List.drop_zero, Nat.sub_zero, Nat.sub_zero, List.take_append_of_le_length (Nat.le_refl _), List.take_length] at hcut
  obtain ⟨ad, had⟩ : ∃ ad, ad = (if cap = 0 then a else a.map (fun x => x.add 0)) := ⟨_, rfl⟩
  rw [← had] at hsl hcut
  clear had
  have HSM := Hid.mkI (same_true (l := l) hcut hv)
  obtain ⟨g, off, rfl, hg, hce⟩ := hcell (by intro e; have := congrArg List.length e; simp [mks_length] at this)
  have HCE : Hid (∀ j, j < 64 → w.cell? ⟨g, off + (l.length + j), none⟩ = some (.int .u8 (128 + (j : Int)))) := fun j hj => by
    rw [hce (l.length + j) (by rw [List.length_append, mks_length]; omega), List.getD_eq_getElem?_getD, List.getElem?_append_right (by omega), Nat.add_sub_cancel_left, ← List.getD_eq_getElem?_getD, mks_get _ _ hj]
  obtain ⟨b, d, e2, _⟩ := hv
  subst e2
  obtain ⟨n, hn⟩ : ∃ n, n = l.length := ⟨_, rfl⟩
  obtain ⟨m, hm⟩ : ∃ m, m = (l ++ mks 64).length := ⟨_, rfl⟩
  have hmn : m = n + 64 := by rw [hm, hn, List.length_append, mks_length]
  rw [← hm, ← hn] at hsl
  rw [← hn] at HSM HCE hl
  rw [← hm, ← hn]
  clear hn hm hcut hu0 hce hc
  subst hmn
  go_enter Tryz.func19, Tryz.ntmps19
  go_wp2_with (go_at_call 39; refine HSM.out.mono ?_; rintro e w5 ⟨rfl, hw5⟩; have hw6 := hw5.symm; subst hw6)
  go_loopw [5] (fun i wr => ∃ k : Nat, k ≤ 64 ∧ i = .int .i64 k ∧ wr = w) (fun i _ => 64 - (intOf i).toNat)
  case atStart => exact ⟨0, Nat.zero_le _, rfl, rfl⟩
  case round =>
    obtain ⟨k, hk, rfl, hwr⟩ := hrel
    have hwr2 := hwr.symm
    subst hwr2
    clear hwr
    by_cases hlt : k < 64
    · have hlt2 : (k : Int) < 64 := by omega
      have hmod : (128 + (k : Int)) % 256 = 128 + (k : Int) := by omega
      have hcA := HCE.out k hlt
      have hnk : (n : Int) + (k : Int) ≤ 140737488355328 := by omega
      have hnk2 : (n : Int) + (k : Int) < (n : Int) + 64 := by omega
      go_wp2
      go_roundw
      case rel => exact ⟨k + 1, by omega, by go_num, trivial⟩
      case measure => simp [intOf]; omega
    · have hk64 : k = 64 := by omega
      subst hk64
      go_wp2
      go_ret
      exact ⟨rfl, rfl⟩
end Go.Proofs.YtheeogbmljjbdaaGreatDoor
namespace Go.Proofs.YtheeogbmljjbdaaGreatDoor
set_option linter.unusedVariables false
set_option maxRecDepth 100000
open Go.ChangeShapes Go.WideShapes Go.ChangeAt Go.RowKit Go.Deep
theorem own_n {w : World} {B e size n : Nat} {m : Option Addr} {k c : Nat} {xs : List Value} (h : w.ownsRow B e size (.slice m k c) n xs) : k = n := by
  rcases h.2 with ⟨h', h0⟩ | ⟨g', cap', cur, h', _⟩
  · cases h'; exact h0.symm
  · cases h'; rfl
theorem own_keepB {w w' : World} {B e size n : Nat} {v : Value} {xs : List Value} (h : w.ownsRow B e size v n xs) (k : ∀ j, B ≤ j → j < w.heap.size → w'.heap[j]? = w.heap[j]?) : w'.ownsRow B e size v n xs := by
  refine ⟨h.1, ?_⟩
  rcases h.2 with h' | ⟨g, cap, cur, rfl, h1, h2, h3⟩
  · exact .inl h'
  · exact .inr ⟨g, cap, cur, rfl, h1, by rw [k g h1 (heap_lt h2)]; exact h2, h3⟩
theorem Dts.keepB {b : List Int} {B : Nat} {w w' : World} {L : List Sg} {l : List Pt} (h : Dts b B w L l) (k : ∀ j, B ≤ j → j < w.heap.size → w'.heap[j]? = w.heap[j]?) : Dts b B w' L l := by
  induction h with
  | nil => exact .nil
  | cons h1 _ ih => exact .cons ⟨h1.1, h1.2.1, h1.2.2.1, own_keepB h1.2.2.2 k⟩ ih
theorem ImO.keepB {b : List Int} {B : Nat} {w w' : World} {u v : Value} {L : List Sg} (h : ImO b B w u v L) (k : ∀ j, B ≤ j → j < w.heap.size → w'.heap[j]? = w.heap[j]?) : ImO b B w' u v L := ⟨own_keepB h.segs k, h.data.keepB k, own_keepB h.syms k⟩
def ptz : Pt := ⟨0, 0, 0, 0, 0⟩
theorem Dts.at {b : List Int} {B : Nat} {w : World} {L : List Sg} {l : List Pt} (h : Dts b B w L l) : ∀ j, j < L.length → SgPt b B w (sg L j) (l.getD j ptz) := by
  induction h with
  | nil => intro j hj; simp at hj
  | @cons x p L l h1 _ ih =>
    intro j hj
    cases j with
    | zero => exact h1
    | succ j => exact ih j (by simpa using hj)
theorem Dts.alike {b : List Int} {B B' : Nat} {w w' : World} {L M : List Sg} {l : List Pt} (h : Dts b B w L l) (h' : Dts b B' w' M l) : Alike L M := by
  have e : M.length = L.length := by rw [h'.len, h.len]
  refine ⟨e, fun j hj => ?_, fun j hj => ?_, fun j hj => ?_, fun j hj => ?_⟩
  all_goals
    have q := h.at j hj
    have q' := h'.at j (by omega)
  · rw [q.1, q'.1]
  · rw [q.2.1, q'.2.1]
  · rw [q.2.2.1, q'.2.2.1]
  · rw [own_n q.2.2.2, own_n q'.2.2.2]
def ptD (b : List Int) (l : List Pt) (j : Nat) : List Int := (b.drop (l.getD j ptz).p).take (l.getD j ptz).n
theorem Dts.dta {b : List Int} {B : Nat} {w : World} {L : List Sg} {l : List Pt} (h : Dts b B w L l) : Dta w L (ptD b l) := fun j hj => by
  have q := (h.at j hj).2.2.2
  refine ⟨?_, Byt.of_own q⟩
  have e := q.1
  rw [bv_len, Nat.mul_one] at e
  rw [own_n q]
  exact e
theorem ImO.imq {b : List Int} {B : Nat} {w : World} {u v : Value} {L : List Sg} (h : ImO b B w u v L) : Imq w u v L (nSrt (nsR b).1) := ⟨Sgs.of_own h.segs, Sys.of_own h.syms⟩
theorem ImO.small {b : List Int} {B : Nat} {w : World} {u v : Value} {L : List Sg} (hB : AllB b) (h : ImO b B w u v L) : L.length ≤ 140737488355328 := by
  have e := h.data.len
  have e2 : (paL b).length = (prL b (vl b 32 8) (vl b 56 2)).1.length := (List.mergeSort_perm _ _).length_eq
  have e3 := prL_len b (vl b 32 8) (vl b 56 2)
  have e4 : vl b 56 2 < 256 ^ 2 := vl_lt hB 56 2
  omega
theorem nSrt_len (l : List Sy) : (nSrt l).length = l.length := (List.mergeSort_perm l (fun x y => !ahS y x)).length_eq
/-- Two images of one file. -/
theorem alike_im {b : List Int} {B B' : Nat} {w : World} {u v u' v' : Value} {L M : List Sg} (hB : AllB b) (h : ImO b B w u v L) (h' : ImO b B' w u' v' M) :
    Calls Tryz.prog 15 #[.agg #[.int .u64 ((vl b 24 8 : Nat) : Int), u, v], .agg #[.int .u64 ((vl b 24 8 : Nat) : Int), u', v']] w fun e w' => e = .returned (.bool true) ∧ Below w.heap.size w w' := by
  rw [nat64 (vl_lt8 hB 24 8 (by omega))]
  exact alike_c _ u v u' v' M L (nSrt (nsR b).1) (ptD b (paL b)) (h'.small hB) (by rw [nSrt_len]; have := nsR_len b; omega) w h.imq h'.imq (h'.data.alike h.data) h.data.dta h'.data.dta
theorem alike_nil (w : World) : Calls Tryz.prog 15 #[.agg #[.int .u64 0, .slice none 0 0, .slice none 0 0], .agg #[.int .u64 0, .slice none 0 0, .slice none 0 0]] w fun e w' => e = .returned (.bool true) ∧ Below w.heap.size w w' := by
  have hs : Sgs w (.slice none 0 0) [] := ⟨none, 0, rfl, Nat.le_refl _, fun h => absurd rfl h⟩
  have hy : Sys w (.slice none 0 0) [] := ⟨none, 0, rfl, Nat.le_refl _, fun h => absurd rfl h⟩
  exact alike_c 0#64 _ _ _ _ [] [] [] (fun _ => []) (by simp) (by simp) w ⟨hs, hy⟩ ⟨hs, hy⟩ ⟨rfl, fun j h => by simp at h, fun j h => by simp at h, fun j h => by simp at h, fun j h => by simp at h⟩ (fun j h => by simp at h) (fun j h => by simp at h)
theorem num_c (z : Int) (w : World) : Calls Tryz.prog 13 #[.int .i64 z] w fun e w' => e = .returned (.int .i64 z) ∧ w' = w := by
  go_enter Tryz.func13, Tryz.ntmps13
  go_wp2
  go_ret
  exact ⟨rfl, rfl⟩
theorem place_n (w : World) : Calls Tryz.prog 18 #[.nilIface] w fun e w' => e = .returned (.tuple #[.agg #[.int .i64 0, .int .i64 0, .int .i64 0], .bool true]) ∧ Below w.heap.size w w' := by
  have HB : Hid (Below w.heap.size w (w.alloc (.cells #[.int .i64 0, .int .i64 0, .int .i64 0] 46))) := below_al _
  have R0 : Hid ((w.alloc (.cells #[.int .i64 0, .int .i64 0, .int .i64 0] 46)).heap[w.heap.size]? = some (.cells #[.int .i64 0, .int .i64 0, .int .i64 0] 46 (0, 0))) := heap_alloc_new w _
  have hnil : ∀ w : World, (binOp .eql 36 .nilIface .nilIface).run Tryz.prog w = .ok (.bool true) w := fun w => by kernel_rfl
  have heg : ∀ (w : World), (eqGuard .eql 36 (.tmp 6) (.const .nilIface) .nilIface .nilIface).run Tryz.prog w = .ok () w := fun w => by kernel_rfl
  go_enter Tryz.func18, Tryz.ntmps18
  go_upto_region 1 with fail
  generalize w.alloc (.cells #[.int .i64 0, .int .i64 0, .int .i64 0] 46) = W1 at *
  have b0 := cell_of_row W1 w.heap.size 0 _ _ _ R0.out
  have b1 := cell_of_row W1 w.heap.size 1 _ _ _ R0.out
  have b2 := cell_of_row W1 w.heap.size 2 _ _ _ R0.out
  have f0 := frozen_of_row W1 w.heap.size 0 _ _ R0.out
  have f1 := frozen_of_row W1 w.heap.size 1 _ _ R0.out
  have f2 := frozen_of_row W1 w.heap.size 2 _ _ R0.out
  go_wp2
  exact bodyPost_ret (v := .tuple #[.agg #[.int .i64 0, .int .i64 0, .int .i64 0], .bool true]) (results_rs Tryz.results18 _ _ w.heap.size 46 _ (0, 0) _ _ (by rfl) (by rfl) (set3_at R0.out _ _ _) Tryz.underlying46 (by rfl) size_flt) rfl ⟨rfl, below_set3 HB.out (Nat.le_refl _) _ _ _⟩
set_option maxHeartbeats 4000000 in
theorem place_f (g : Nat) (x y : Int) (w : World) (hE : Hid (EtW w)) (hg : w.heap[g]? = some (.cells #[.int .i64 0, .int .i64 x, .int .i64 y] 46 (0, 0))) :
    Calls Tryz.prog 18 #[.iface 79 (.pointer (some ⟨g, 0, none⟩))] w fun e w' => e = .returned (.tuple #[.agg #[.int .i64 0, .int .i64 x, .int .i64 y], .bool true]) ∧ Below w.heap.size w w' := by
  obtain ⟨W1, hW1⟩ : ∃ W1, (w.alloc (.cells #[.int .i64 0, .int .i64 0, .int .i64 0] 46)).alloc (.cells #[.pointer none] 79) = W1 := ⟨_, rfl⟩
  have hgl := heap_lt hg
  have HB : Hid (Below w.heap.size w W1) := by rw [← hW1]; exact ((Below.refl _ _).alloc (Nat.le_refl _) _).alloc (by simp) _
  have R0 : Hid (W1.heap[w.heap.size]? = some (.cells #[.int .i64 0, .int .i64 0, .int .i64 0] 46 (0, 0))) := by rw [← hW1]; exact heap_alloc2_old w _ _
  have R1 : Hid (W1.heap[w.heap.size + 1]? = some (.cells #[.pointer none] 79 (0, 0))) := by rw [← hW1]; exact heap_alloc2_new w _ _
  have hsz : Hid (W1.heap.size = w.heap.size + 2) := by unfold Hid; rw [← hW1]; simp
  have cA : Hid (Calls Tryz.prog 38 #[.iface 79 (.pointer (some ⟨g, 0, none⟩)), .iface 81 (.pointer (some ⟨w.heap.size + 1, 0, none⟩))] W1 fun ev w' => ev = .returned (.bool true) ∧ w' = asW W1 ⟨g, 0, none⟩ ⟨w.heap.size + 1, 0, none⟩) := asHit_c _ _ (.pointer none) _ (hE.out.below HB.out rfl) (cell_of_row W1 _ 0 _ _ _ R1.out) (frozen_of_row W1 _ 0 _ _ R1.out)
  have H2 : Hid (Below (w.heap.size + 1) W1 (asW W1 ⟨g, 0, none⟩ ⟨w.heap.size + 1, 0, none⟩)) := asW_below _ _ (Below.refl _ _) (by rw [hsz.out]; omega) (Nat.le_refl _)
  have RT : Hid ((asW W1 ⟨g, 0, none⟩ ⟨w.heap.size + 1, 0, none⟩).heap[w.heap.size + 1]? = some (.cells #[.pointer (some ⟨g, 0, none⟩)] 79 (0, 0))) := asW_t _ _ _ _ (.pointer none) R1.out
  generalize asW W1 ⟨g, 0, none⟩ ⟨w.heap.size + 1, 0, none⟩ = W2 at cA H2 RT
  have RF : Hid (W2.heap[w.heap.size]? = some (.cells #[.int .i64 0, .int .i64 0, .int .i64 0] 46 (0, 0))) := (H2.out.block _ (by omega)).trans R0.out
  have RG : Hid (W2.heap[g]? = some (.cells #[.int .i64 0, .int .i64 x, .int .i64 y] 46 (0, 0))) := (H2.out.block _ (by omega)).trans ((HB.out.block _ hgl).trans hg)
  have HB2 : Hid (Below w.heap.size w W2) := HB.out.trans (H2.out.mono (by omega))
  have hnil : ∀ w : World, (binOp .eql 36 (.iface 79 (.pointer (some ⟨g, 0, none⟩))) .nilIface).run Tryz.prog w = .ok (.bool false) w := fun w => by kernel_rfl
  have heg : ∀ (w : World), (eqGuard .eql 36 (.tmp 6) (.const .nilIface) (.iface 79 (.pointer (some ⟨g, 0, none⟩))) .nilIface).run Tryz.prog w = .ok () w := fun w => by kernel_rfl
  have hpn : ∀ w : World, (binOp .eql 79 (.pointer (some ⟨g, 0, none⟩)) (.pointer none)).run Tryz.prog w = .ok (.bool false) w := fun w => by kernel_rfl
  have t0 := cell_of_row W2 (w.heap.size + 1) 0 _ _ _ RT.out
  have g0 := cell_of_row W2 g 0 _ _ _ RG.out
  have g1 := cell_of_row W2 g 1 _ _ _ RG.out
  have g2 := cell_of_row W2 g 2 _ _ _ RG.out
  have b0 := cell_of_row W2 w.heap.size 0 _ _ _ RF.out
  have b1 := cell_of_row W2 w.heap.size 1 _ _ _ RF.out
  have b2 := cell_of_row W2 w.heap.size 2 _ _ _ RF.out
  have f0 := frozen_of_row W2 w.heap.size 0 _ _ RF.out
  have f1 := frozen_of_row W2 w.heap.size 1 _ _ RF.out
  have f2 := frozen_of_row W2 w.heap.size 2 _ _ RF.out
  clear hg hE
  go_enter Tryz.func18, Tryz.ntmps18
  go_upto_region 4 with fail
  try rw [hW1]
  clear hW1
  go_wp2_with (go_at_call 38; refine cA.out.mono ?_; rintro e w3 ⟨rfl, hw3⟩; subst hw3)
  exact bodyPost_ret (v := .tuple #[.agg #[.int .i64 0, .int .i64 x, .int .i64 y], .bool true]) (results_rs Tryz.results18 _ _ w.heap.size 46 _ (0, 0) _ _ (by rfl) (by rfl) (set3_at RF.out _ _ _) Tryz.underlying46 (by rfl) size_flt) rfl ⟨rfl, below_set3 HB2.out (Nat.le_refl _) _ _ _⟩
end Go.Proofs.YtheeogbmljjbdaaGreatDoor
