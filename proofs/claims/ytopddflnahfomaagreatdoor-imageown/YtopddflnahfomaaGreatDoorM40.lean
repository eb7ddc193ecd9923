/-
  Iwv Iyb Iyc Iza Izb Izc Izd.
-/
import Derived.Test.YtopddflnahfomaaGreatDoorM39
import Derived.Test.YtopddflnahfomaaGreatDoorM25
namespace Go.Proofs.YtopddflnahfomaaGreatDoor
set_option linter.unusedVariables false
open Go.ChangeShapes Go.WideShapes Go.ChangeAt Go.RowKit Go.Deep
set_option maxRecDepth 100000 in
set_option maxHeartbeats 4000000 in
theorem walike_c (E : BitVec 64) (va vna vb vnb : Value) (L M : List Sg) (N : List Sy) (D : Nat → List Int) (hl : L.length ≤ 140737488355328) (hn : N.length ≤ 140737488355328) (w : World) (ha : Img w va vna M N) (hb : Img w vb vnb L N) (hal : Alike L M) (hda : Dta w M D) (hdb : Dta w L D) :
    Calls Tryz.prog 10 #[.agg #[.int .u64 (n64 E), va, vna], .agg #[.int .u64 (n64 E), vb, vnb]] w fun e w' => e = .returned (.bool true) ∧ Below w.heap.size w w' := by
  have HA : Hid (Img w va vna M N) := ha
  have HB : Hid (Img w vb vnb L N) := hb
  have HL : Hid (Alike L M) := hal
  have HDA : Hid (Dta w M D) := hda
  have HDB : Hid (Dta w L D) := hdb
  obtain ⟨a1, c1, rfl, _, _⟩ := ha.segs
  obtain ⟨a2, c2, rfl, _, _⟩ := ha.syms
  obtain ⟨b1, e1, rfl, _, _⟩ := hb.segs
  obtain ⟨b2, e2, rfl, _, _⟩ := hb.syms
  obtain ⟨m1, hm1⟩ : ∃ m, m = M.length := ⟨_, rfl⟩
  obtain ⟨m3, hm3⟩ : ∃ m, m = L.length := ⟨_, rfl⟩
  obtain ⟨m2, hm2⟩ : ∃ m, m = N.length := ⟨_, rfl⟩
  rw [← hm1, ← hm2] at HA ⊢
  rw [← hm3] at HB ⊢
  rw [← hm2] at HB
  obtain ⟨m4, hm4⟩ : ∃ m, m = m2 := ⟨_, rfl⟩
  have HB1 : Hid (Below w.heap.size w ((w.alloc (.cells #[.int .u64 (n64 E), .slice a1 m1 c1, .slice a2 m2 c2] 26)).alloc (.cells #[.int .u64 (n64 E), .slice b1 m3 e1, .slice b2 m4 e2] 26))) := ((Below.refl _ _).alloc (Nat.le_refl _) _).alloc (by simp) _
  have k0 : Hid (∀ wx, Below ((w.alloc (.cells #[.int .u64 (n64 E), .slice a1 m1 c1, .slice a2 m2 c2] 26)).alloc (.cells #[.int .u64 (n64 E), .slice b1 m3 e1, .slice b2 m4 e2] 26)).heap.size ((w.alloc (.cells #[.int .u64 (n64 E), .slice a1 m1 c1, .slice a2 m2 c2] 26)).alloc (.cells #[.int .u64 (n64 E), .slice b1 m3 e1, .slice b2 m4 e2] 26)) wx → (wx.cell? ⟨w.heap.size, 0, none⟩ = some (.int .u64 (n64 E)) ∧ wx.cell? ⟨w.heap.size, 1, none⟩ = some (.slice a1 m1 c1) ∧ wx.cell? ⟨w.heap.size, 2, none⟩ = some (.slice a2 m2 c2)) ∧ wx.cell? ⟨w.heap.size + 1, 0, none⟩ = some (.int .u64 (n64 E)) ∧ wx.cell? ⟨w.heap.size + 1, 1, none⟩ = some (.slice b1 m3 e1) ∧ wx.cell? ⟨w.heap.size + 1, 2, none⟩ = some (.slice b2 m4 e2)) := fun wx hx => by
    have r1 : wx.heap[w.heap.size]? = some (.cells #[.int .u64 (n64 E), .slice a1 m1 c1, .slice a2 m2 c2] 26 (0, 0)) := by rw [hx.block _ (by simp; omega)]; exact heap_alloc2_old w _ _
    have r2 : wx.heap[w.heap.size + 1]? = some (.cells #[.int .u64 (n64 E), .slice b1 m3 e1, .slice b2 m4 e2] 26 (0, 0)) := by rw [hx.block _ (by simp)]; exact heap_alloc2_new w _ _
    exact ⟨⟨cell_of_row wx _ 0 _ _ _ r1, cell_of_row wx _ 1 _ _ _ r1, cell_of_row wx _ 2 _ _ _ r1⟩, cell_of_row wx _ 0 _ _ _ r2, cell_of_row wx _ 1 _ _ _ r2, cell_of_row wx _ 2 _ _ _ r2⟩
  have cP : Hid (∀ wx, Below ((w.alloc (.cells #[.int .u64 (n64 E), .slice a1 m1 c1, .slice a2 m2 c2] 26)).alloc (.cells #[.int .u64 (n64 E), .slice b1 m3 e1, .slice b2 m4 e2] 26)).heap.size ((w.alloc (.cells #[.int .u64 (n64 E), .slice a1 m1 c1, .slice a2 m2 c2] 26)).alloc (.cells #[.int .u64 (n64 E), .slice b1 m3 e1, .slice b2 m4 e2] 26)) wx → Calls Tryz.prog 17 #[.slice a1 m1 c1, .slice b1 m3 e1] wx fun e w' => e = .returned (.bool true) ∧ Below wx.heap.size wx w') := fun wx hx => by
    have hy := HB1.out.trans (hx.mono HB1.out.size)
    exact lparts_c _ _ L M D hl wx (HA.out.segs.later hy rfl) (HB.out.segs.later hy rfl) HL.out (HDA.out.later hy) (HDB.out.later hy)
  have cN : Hid (∀ wx, Below ((w.alloc (.cells #[.int .u64 (n64 E), .slice a1 m1 c1, .slice a2 m2 c2] 26)).alloc (.cells #[.int .u64 (n64 E), .slice b1 m3 e1, .slice b2 m4 e2] 26)).heap.size ((w.alloc (.cells #[.int .u64 (n64 E), .slice a1 m1 c1, .slice a2 m2 c2] 26)).alloc (.cells #[.int .u64 (n64 E), .slice b1 m3 e1, .slice b2 m4 e2] 26)) wx → Calls Tryz.prog 18 #[.slice a2 m2 c2, .slice b2 m4 e2] wx fun e w' => e = .returned (.bool true) ∧ Below wx.heap.size wx w') := fun wx hx => by
    have hy := HB1.out.trans (hx.mono HB1.out.size)
    rw [hm4]
    exact lnames_c _ _ N hn wx (HA.out.syms.later hy rfl) (HB.out.syms.later hy rfl)
  rw [show Value.slice b2 m2 e2 = Value.slice b2 m4 e2 by rw [hm4]]
  clear ha hb hal hda hdb hm1 hm2 hm3 hm4
  have HZ : Hid (w.heap.size ≤ ((w.alloc (.cells #[.int .u64 (n64 E), .slice a1 m1 c1, .slice a2 m2 c2] 26)).alloc (.cells #[.int .u64 (n64 E), .slice b1 m3 e1, .slice b2 m4 e2] 26)).heap.size) := HB1.out.size
  go_enter Tryz.func10, Tryz.ntmps10
  go_upto_region 1 with fail
  obtain ⟨g1, hg1⟩ : ∃ g1, g1 = w.heap.size := ⟨_, rfl⟩
  obtain ⟨g2, hg2⟩ : ∃ g2, g2 = w.heap.size + 1 := ⟨_, rfl⟩
  have HG : Hid (g1 = w.heap.size) := hg1
  rw [← hg2, ← hg1] at k0 ⊢
  clear hg1 hg2
  generalize ((w.alloc (.cells #[.int .u64 (n64 E), .slice a1 m1 c1, .slice a2 m2 c2] 26)).alloc (.cells #[.int .u64 (n64 E), .slice b1 m3 e1, .slice b2 m4 e2] 26)) = W2 at *
  obtain ⟨⟨q0, q1, q2⟩, p0, p1, p2⟩ := k0.out W2 (Below.refl _ _)
  --@CUT
  go_wp2_with (first | (go_at_call 17; refine (cP.out _ (Below.refl _ _)).mono ?_; rintro e w3 ⟨rfl, hb3⟩; have HB3 : Hid (Below W2.heap.size W2 w3) := hb3; obtain ⟨⟨q0, q1, q2⟩, p0, p1, p2⟩ := k0.out w3 hb3; clear hb3) | (go_at_call 18; refine (cN.out _ HB3.out).mono ?_; rintro e w4 ⟨rfl, hb4⟩; have HB4 : Hid (Below W2.heap.size W2 w4) := HB3.out.trans (hb4.mono HB3.out.size); clear hb4))
  go_ret
  exact ⟨rfl, HB1.out.trans (HB4.out.mono HZ.out)⟩
/-- Where a slice lies: from B on, if anywhere. -/
def From (B : Nat) (v : Value) : Prop := ∀ a n c, v = .slice (some a) n c → B ≤ a.block
theorem from_own {w : World} {B e size n : Nat} {v : Value} {xs : List Value} (h : w.ownsRow B e size v n xs) : From B v := fun a k c e => by
  rcases h.2 with ⟨h', _⟩ | ⟨g, cap, cur, h', h1, _⟩
  · rw [h'] at e; cases e
  · rw [h'] at e; cases e; exact h1
/-- What both Writes answer. -/
def ans (E : BitVec 64) (L : List Sg) (N : List Sy) (D : Nat → List Int) : List Int := if ck E L N = 0 then fl E.toNat L N D else []
theorem pwrite (E : BitVec 64) (vs vn : Value) (L : List Sg) (N : List Sy) (D : Nat → List Int) (hl : L.length ≤ 140737488355328) (hn : N.length ≤ 140737488355328) (w : World) (hi : Img w vs vn L N) (hdt : Dta w L D) (hT : Hid (Tabs w)) (R : Int) (hR : R = ck E L N) :
    Calls Tryz.prog 6 #[.agg #[.int .u64 (n64 E), vs, vn]] w fun e w' => ∃ v, e = .returned (.tuple #[v, .int .i64 R]) ∧ Byt w' v (ans E L N D) ∧ From w.heap.size v ∧ Below w.heap.size w w' := by
  subst hR
  unfold ans
  by_cases h : ck E L N = 0
  · rw [if_pos h, h]
    by_cases h0 : N.length = 0
    · refine (pwrite_z E vs vn L N hl hn w hi D hdt h h0 hT).mono ?_
      rintro e w' ⟨f, n, hf, rfl, hb, hw⟩
      exact ⟨_, rfl, hb.1, fun a k c e => by cases e; exact hf, hw⟩
    · refine (pwrite_a E vs vn L N hl hn w hi D hdt h (by omega) hT).mono ?_
      rintro e w' ⟨f, n, hf, rfl, hb, hw⟩
      exact ⟨_, rfl, hb.1, fun a k c e => by cases e; exact hf, hw⟩
  · rw [if_neg h]
    refine (pwrite_e E vs vn L N hl hn w hi h hT).mono ?_
    rintro e w' ⟨rfl, hw⟩
    exact ⟨_, rfl, Byt.nil w', fun a k c e => (by cases e), hw⟩
/-- Write of an image that Check takes: a row of its own. -/
theorem pwrite_o (E : BitVec 64) (vs vn : Value) (L : List Sg) (N : List Sy) (D : Nat → List Int) (hl : L.length ≤ 140737488355328) (hn : N.length ≤ 140737488355328) (w : World) (hi : Img w vs vn L N) (hdt : Dta w L D) (hT : Hid (Tabs w)) (h : ck E L N = 0) :
    Calls Tryz.prog 6 #[.agg #[.int .u64 (n64 E), vs, vn]] w fun e w' => ∃ f n, w.heap.size ≤ f ∧ e = .returned (.tuple #[.slice (some ⟨f, 0, none⟩) n n, .int .i64 0]) ∧ Byo w' f n (ans E L N D) ∧ Below w.heap.size w w' := by
  unfold ans
  rw [if_pos h]
  by_cases h0 : N.length = 0
  · exact pwrite_z E vs vn L N hl hn w hi D hdt h h0 hT
  · exact pwrite_a E vs vn L N hl hn w hi D hdt h (by omega) hT
end Go.Proofs.YtopddflnahfomaaGreatDoor
namespace Go.Proofs.YtopddflnahfomaaGreatDoor
set_option linter.unusedVariables false
set_option maxRecDepth 100000
open Go.ChangeShapes Go.WideShapes Go.ChangeAt Go.RowKit Go.Deep
theorem own_n {w : World} {B e size n : Nat} {m : Option Addr} {k c : Nat} {xs : List Value} (h : w.ownsRow B e size (.slice m k c) n xs) : k = n := by
  rcases h.2 with ⟨h', h0⟩ | ⟨g', cap', cur, h', _⟩
  · cases h'; exact h0.symm
  · cases h'; rfl
theorem own_keepB {w w' : World} {B e size n : Nat} {v : Value} {xs : List Value} (h : w.ownsRow B e size v n xs) (k : ∀ j, B ≤ j → j < w.heap.size → w'.heap[j]? = w.heap[j]?) : w'.ownsRow B e size v n xs := by
  refine ⟨h.1, ?_⟩
  rcases h.2 with h' | ⟨g, cap, cur, rfl, h1, h2, h3⟩
  · exact .inl h'
  · exact .inr ⟨g, cap, cur, rfl, h1, by rw [k g h1 (heap_lt h2)]; exact h2, h3⟩
theorem Dts.keepB {b : List Int} {B : Nat} {w w' : World} {L : List Sg} {l : List Pt} (h : Dts b B w L l) (k : ∀ j, B ≤ j → j < w.heap.size → w'.heap[j]? = w.heap[j]?) : Dts b B w' L l := by
  induction h with
  | nil => exact .nil
  | cons h1 _ ha ih => exact .cons ⟨h1.1, h1.2.1, h1.2.2.1, own_keepB h1.2.2.2 k⟩ ih ha
theorem ImO.keepB {b : List Int} {B : Nat} {w w' : World} {u v : Value} {L : List Sg} (h : ImO b B w u v L) (k : ∀ j, B ≤ j → j < w.heap.size → w'.heap[j]? = w.heap[j]?) : ImO b B w' u v L := ⟨own_keepB h.segs k, h.data.keepB k, own_keepB h.syms k⟩
def ptz : Pt := ⟨0, 0, 0, 0, 0⟩
theorem Dts.at {b : List Int} {B : Nat} {w : World} {L : List Sg} {l : List Pt} (h : Dts b B w L l) : ∀ j, j < L.length → SgPt b B w (sg L j) (l.getD j ptz) := by
  induction h with
  | nil => intro j hj; simp at hj
  | @cons x p L l h1 _ _ ih =>
    intro j hj
    cases j with
    | zero => exact h1
    | succ j => exact ih j (by simpa using hj)
theorem Dts.alike {b : List Int} {B B' : Nat} {w w' : World} {L M : List Sg} {l : List Pt} (h : Dts b B w L l) (h' : Dts b B' w' M l) : Alike L M := by
  have e : M.length = L.length := by rw [h'.len, h.len]
  refine ⟨e, fun j hj => ?_, fun j hj => ?_, fun j hj => ?_, fun j hj => ?_⟩
  all_goals
    have q := h.at j hj
    have q' := h'.at j (by omega)
  · rw [q.1, q'.1]
  · rw [q.2.1, q'.2.1]
  · rw [q.2.2.1, q'.2.2.1]
  · rw [own_n q.2.2.2, own_n q'.2.2.2]
def ptD (b : List Int) (l : List Pt) (j : Nat) : List Int := (b.drop (l.getD j ptz).p).take (l.getD j ptz).n
theorem Dts.dta {b : List Int} {B : Nat} {w : World} {L : List Sg} {l : List Pt} (h : Dts b B w L l) : Dta w L (ptD b l) := fun j hj => by
  have q := (h.at j hj).2.2.2
  refine ⟨?_, Byt.of_own q⟩
  have e := q.1
  rw [bv_len, Nat.mul_one] at e
  rw [own_n q]
  exact e
theorem ImO.imq {b : List Int} {B : Nat} {w : World} {u v : Value} {L : List Sg} (h : ImO b B w u v L) : Imq w u v L (nSrt (nsR b).1) := ⟨Sgs.of_own h.segs, Sys.of_own h.syms⟩
theorem ImO.small {b : List Int} {B : Nat} {w : World} {u v : Value} {L : List Sg} (hB : AllB b) (h : ImO b B w u v L) : L.length ≤ 140737488355328 := by
  have e := h.data.len
  have e2 : (paL b).length = (prL b (vl b 32 8) (vl b 56 2)).1.length := (List.mergeSort_perm _ _).length_eq
  have e3 := prL_len b (vl b 32 8) (vl b 56 2)
  have e4 : vl b 56 2 < 256 ^ 2 := vl_lt hB 56 2
  omega
theorem nSrt_len (l : List Sy) : (nSrt l).length = l.length := (List.mergeSort_perm l (fun x y => !ahS y x)).length_eq
/-- Two images of one file. -/
theorem alike_im {b : List Int} {B B' : Nat} {w : World} {u v u' v' : Value} {L M : List Sg} (hB : AllB b) (h : ImO b B w u v L) (h' : ImO b B' w u' v' M) :
    Calls Tryz.prog 10 #[.agg #[.int .u64 ((vl b 24 8 : Nat) : Int), u, v], .agg #[.int .u64 ((vl b 24 8 : Nat) : Int), u', v']] w fun e w' => e = .returned (.bool true) ∧ Below w.heap.size w w' := by
  rw [nat64 (vl_lt8 hB 24 8 (by omega))]
  exact alike_c _ u v u' v' M L (nSrt (nsR b).1) (ptD b (paL b)) (h'.small hB) (by rw [nSrt_len]; have := nsR_len b; omega) w h.imq h'.imq (h'.data.alike h.data) h.data.dta h'.data.dta
theorem alike_nil (w : World) : Calls Tryz.prog 10 #[.agg #[.int .u64 0, .slice none 0 0, .slice none 0 0], .agg #[.int .u64 0, .slice none 0 0, .slice none 0 0]] w fun e w' => e = .returned (.bool true) ∧ Below w.heap.size w w' := by
  have hs : Sgs w (.slice none 0 0) [] := ⟨none, 0, rfl, Nat.le_refl _, fun h => absurd rfl h⟩
  have hy : Sys w (.slice none 0 0) [] := ⟨none, 0, rfl, Nat.le_refl _, fun h => absurd rfl h⟩
  exact alike_c 0#64 _ _ _ _ [] [] [] (fun _ => []) (by simp) (by simp) w ⟨hs, hy⟩ ⟨hs, hy⟩ ⟨rfl, fun j h => by simp at h, fun j h => by simp at h, fun j h => by simp at h, fun j h => by simp at h⟩ (fun j h => by simp at h) (fun j h => by simp at h)
theorem num_c (z : Int) (w : World) : Calls Tryz.prog 8 #[.int .i64 z] w fun e w' => e = .returned (.int .i64 z) ∧ w' = w := by
  go_enter Tryz.func8, Tryz.ntmps8
  go_wp2
  go_ret
  exact ⟨rfl, rfl⟩
end Go.Proofs.YtopddflnahfomaaGreatDoor
namespace Go.Proofs.YtopddflnahfomaaGreatDoor
set_option linter.unusedVariables false
set_option maxRecDepth 100000
open Go.ChangeShapes Go.WideShapes Go.ChangeAt Go.RowKit Go.Deep
theorem neq_flt (x y : Int) (w : World) : (binOp .neq 95 (.agg #[.int .i64 0, .int .i64 x, .int .i64 y]) (.agg #[.int .i64 0, .int .i64 x, .int .i64 y])).run Tryz.prog w = .ok (.bool false) w := by
  have u3 := Tryz.underlying3
  have a3 := Tryz.isAgg3
  have z3 := Tryz.sizeOf3
  have u4 := Tryz.underlying30
  have a4 := Tryz.isAgg30
  have z4 := Tryz.sizeOf30
  have hS : Tryz.prog.underlying 95 = some (.struct (Tryz.prog.fieldsOf 95)) := by kernel_rfl
  have hp : Tryz.prog.stoodInHeld 95 = false := by kernel_rfl
  rw [run_neq_struct, show (10000 : Nat) = 9999 + 1 from rfl, run_equalIn_agg w 9999 95 _ _ hS hp]
  simp only [Program.fieldsOf, Tryz.underlying95]
  go_simp
theorem neqG_flt (u v : Array Value) (x y : Operand) (w : World) : (eqGuard .neq 95 x y (.agg u) (.agg v)).run Tryz.prog w = .ok () w := by kernel_rfl
/-- Only one block has been written. -/
structure Oth (gl : Nat) (w w' : World) : Prop where
  os : w'.os = w.os
  tape : w'.tape = w.tape
  output : w'.output = w.output
  size : w.heap.size ≤ w'.heap.size
  block : ∀ j, j < w.heap.size → j ≠ gl → w'.heap[j]? = w.heap[j]?
theorem Oth.refl (gl : Nat) (w : World) : Oth gl w w := ⟨rfl, rfl, rfl, Nat.le_refl _, fun _ _ _ => rfl⟩
theorem Oth.set {gl : Nat} {w w' : World} (h : Oth gl w w') (k : Nat) (u : Value) : Oth gl w (w'.setCell ⟨gl, k, none⟩ u) :=
  ⟨h.os, h.tape, h.output, by simp; exact h.size, fun j h1 h2 => (heap_setCell_other w' _ j _ h2).trans (h.block j h1 h2)⟩
theorem Oth.below {gl B : Nat} {w0 w w' : World} (h : Oth gl w w') (hb : Below B w0 w) (hB : B ≤ gl) (hS : B ≤ w.heap.size) : Below B w0 w' :=
  ⟨h.os.trans hb.os, h.tape.trans hb.tape, h.output.trans hb.output, Nat.le_trans hb.size h.size, fun j hj => (h.block j (Nat.lt_of_lt_of_le hj hS) (by omega)).trans (hb.block j hj)⟩
end Go.Proofs.YtopddflnahfomaaGreatDoor
namespace Go.Proofs.YtopddflnahfomaaGreatDoor
set_option linter.unusedVariables false
set_option maxRecDepth 100000
open Go.ChangeShapes Go.WideShapes Go.ChangeAt Go.RowKit Go.Deep
def smN : List Sy := [⟨⟨#[95, 115, 116, 97, 114, 116]⟩, 2147483648#64⟩]
def smD : Nat → List Int := fun _ => [1, 2, 3, 4]
def smL (m : Option Addr) (c : Nat) : List Sg := [⟨2147483648#64, 6#64, 5, .slice m 4 c, 4, m, c⟩]
/-- Its file. -/
def smB : List Int := [127, 69, 76, 70, 2, 1, 1, 0, 0, 0, 0, 0, 0, 0, 0, 0, 2, 0, 243, 0, 1, 0, 0, 0, 0, 0, 0, 128, 0, 0, 0, 0, 64, 0, 0, 0, 0, 0, 0, 0, 216, 0, 0, 0, 0, 0, 0, 0, 1, 0, 0, 0, 64, 0, 56, 0, 1, 0, 64, 0, 4, 0, 3, 0, 1, 0, 0, 0, 5, 0, 0, 0, 120, 0, 0, 0, 0, 0, 0, 0, 0, 0, 0, 128, 0, 0, 0, 0, 0, 0, 0, 128, 0, 0, 0, 0, 4, 0, 0, 0, 0, 0, 0, 0, 6, 0, 0, 0, 0, 0, 0, 0, 1, 0, 0, 0, 0, 0, 0, 0, 1, 2, 3, 4, 0, 0, 0, 0, 0, 0, 0, 0, 0, 0, 0, 0, 0, 0, 0, 0, 0, 0, 0, 0, 0, 0, 0, 0, 0, 0, 0, 0, 1, 0, 0, 0, 16, 0, 241, 255, 0, 0, 0, 128, 0, 0, 0, 0, 0, 0, 0, 0, 0, 0, 0, 0, 0, 95, 115, 116, 97, 114, 116, 0, 0, 46, 115, 121, 109, 116, 97, 98, 0, 46, 115, 116, 114, 116, 97, 98, 0, 46, 115, 104, 115, 116, 114, 116, 97, 98, 0, 0, 0, 0, 0, 0, 0, 0, 0, 0, 0, 0, 0, 0, 0, 0, 0, 0, 0, 0, 0, 0, 0, 0, 0, 0, 0, 0, 0, 0, 0, 0, 0, 0, 0, 0, 0, 0, 0, 0, 0, 0, 0, 0, 0, 0, 0, 0, 0, 0, 0, 0, 0, 0, 0, 0, 0, 0, 0, 0, 0, 0, 0, 0, 0, 0, 0, 0, 0, 0, 1, 0, 0, 0, 2, 0, 0, 0, 0, 0, 0, 0, 0, 0, 0, 0, 0, 0, 0, 0, 0, 0, 0, 0, 128, 0, 0, 0, 0, 0, 0, 0, 48, 0, 0, 0, 0, 0, 0, 0, 2, 0, 0, 0, 1, 0, 0, 0, 8, 0, 0, 0, 0, 0, 0, 0, 24, 0, 0, 0, 0, 0, 0, 0, 9, 0, 0, 0, 3, 0, 0, 0, 0, 0, 0, 0, 0, 0, 0, 0, 0, 0, 0, 0, 0, 0, 0, 0, 176, 0, 0, 0, 0, 0, 0, 0, 8, 0, 0, 0, 0, 0, 0, 0, 0, 0, 0, 0, 0, 0, 0, 0, 1, 0, 0, 0, 0, 0, 0, 0, 0, 0, 0, 0, 0, 0, 0, 0, 17, 0, 0, 0, 3, 0, 0, 0, 0, 0, 0, 0, 0, 0, 0, 0, 0, 0, 0, 0, 0, 0, 0, 0, 184, 0, 0, 0, 0, 0, 0, 0, 27, 0, 0, 0, 0, 0, 0, 0, 0, 0, 0, 0, 0, 0, 0, 0, 1, 0, 0, 0, 0, 0, 0, 0, 0, 0, 0, 0, 0, 0, 0, 0]
theorem sm_len : smB.length = 472 := by kernel_rfl
theorem sm_fl (m : Option Addr) (c : Nat) : fl (2147483648#64).toNat (smL m c) smN smD = smB := of_decide_eq_true (by kernel_rfl)
theorem sm_ck (m : Option Addr) (c : Nat) : ck 2147483648#64 (smL m c) smN = 0 := by kernel_rfl
theorem ans_of {E : BitVec 64} {L : List Sg} {N : List Sy} {D : Nat → List Int} {b : List Int} (h : ck E L N = 0) (h' : fl E.toNat L N D = b) : ans E L N D = b := by
  unfold ans
  rw [if_pos h, h']
theorem sm_ans (m : Option Addr) (c : Nat) : ans 2147483648#64 (smL m c) smN smD = smB := ans_of (sm_ck m c) (sm_fl m c)
theorem allB_of {l : List Int} (h : l.all (fun z => decide (0 ≤ z) && decide (z < 256)) = true) : AllB l := fun z hz => by
  have := List.all_eq_true.1 h z hz
  simp only [Bool.and_eq_true, decide_eq_true_eq] at this
  omega
theorem sm_all : AllB smB := allB_of (by kernel_rfl)
theorem sm_rd : rdF smB = none := by kernel_rfl
theorem sm_en : vl smB 24 8 = 2147483648 := by kernel_rfl
theorem sm_pr : (prL smB (vl smB 32 8) (vl smB 56 2)).1 = [⟨2147483648, 6, 5, 120, 4⟩] := by kernel_rfl
theorem srt_one (p : Pt) : srt [p] = [p] := by simp [srt]
theorem paL_of {b : List Int} {l : List Pt} (h : (prL b (vl b 32 8) (vl b 56 2)).1 = l) : paL b = srt l := by unfold paL; rw [h]
theorem sm_pa : paL smB = [⟨2147483648, 6, 5, 120, 4⟩] := (paL_of sm_pr).trans (srt_one _)
theorem sm_ns : (nsR smB).1 = smN := by kernel_rfl
theorem nSrt_one (x : Sy) : nSrt [x] = [x] := by simp [nSrt]
theorem nSrt_of {l m : List Sy} (h : l = m) : nSrt l = nSrt m := by rw [h]
theorem sm_srt : nSrt (nsR smB).1 = smN := (nSrt_of sm_ns).trans (nSrt_one _)
theorem nil_rd : ∃ F, rdF [] = some F := ⟨_, show rdF [] = some (0, 20) by kernel_rfl⟩
end Go.Proofs.YtopddflnahfomaaGreatDoor
namespace Go.Proofs.YtopddflnahfomaaGreatDoor
set_option linter.unusedVariables false
set_option maxRecDepth 100000
open Go.ChangeShapes Go.WideShapes Go.ChangeAt Go.RowKit Go.Deep
theorem alloc4 (w : World) (o0 o1 o2 o3 : Obj) : ((((w.alloc o0).alloc o1).alloc o2).alloc o3).heap[w.heap.size]? = some o0 ∧ ((((w.alloc o0).alloc o1).alloc o2).alloc o3).heap[w.heap.size + 1]? = some o1 ∧ ((((w.alloc o0).alloc o1).alloc o2).alloc o3).heap[w.heap.size + 1 + 1]? = some o2 ∧ ((((w.alloc o0).alloc o1).alloc o2).alloc o3).heap[w.heap.size + 1 + 1 + 1]? = some o3 ∧ ((((w.alloc o0).alloc o1).alloc o2).alloc o3).heap.size = w.heap.size + 4 := by
  simp only [World.alloc]
  refine ⟨?_, ?_, ?_, ?_, ?_⟩
  · rw [Array.getElem?_push, if_neg (by simp only [Array.size_push]; omega), Array.getElem?_push, if_neg (by simp only [Array.size_push]; omega), Array.getElem?_push, if_neg (by simp only [Array.size_push]; omega), Array.getElem?_push, if_pos rfl]
  · rw [Array.getElem?_push, if_neg (by simp only [Array.size_push]; omega), Array.getElem?_push, if_neg (by simp only [Array.size_push]; omega), Array.getElem?_push, if_pos (by simp only [Array.size_push])]
  · rw [Array.getElem?_push, if_neg (by simp only [Array.size_push]; omega), Array.getElem?_push, if_pos (by simp only [Array.size_push])]
  · rw [Array.getElem?_push, if_pos (by simp only [Array.size_push])]
  · simp only [Array.size_push]
theorem smL_sgs {w : World} {g : Nat} {m : Option Addr} {c : Nat} (hg : g < w.heap.size) (h : w.heap[g]? = some (.cells #[.int .u64 2147483648, .int .u64 6, .int .i64 5, .slice m 4 c] 42 (0, 0))) : Sgs w (.slice (some ⟨g, 0, none⟩) 1 1) (smL m c) :=
  ⟨_, 1, rfl, Nat.le_refl _, fun _ => ⟨g, 0, rfl, hg, fun j hj => by
    have e : j = 0 := by have : (smL m c).length = 1 := rfl; omega
    subst e
    exact ⟨cell_of_row w g 0 _ _ _ h, cell_of_row w g 1 _ _ _ h, cell_of_row w g 2 _ _ _ h, cell_of_row w g 3 _ _ _ h⟩⟩⟩
theorem smN_sys {w : World} {g : Nat} (hg : g < w.heap.size) (h : w.heap[g]? = some (.cells #[.string ⟨#[95, 115, 116, 97, 114, 116]⟩, .int .u64 2147483648] 45 (0, 0))) : Sys w (.slice (some ⟨g, 0, none⟩) 1 1) smN :=
  ⟨_, 1, rfl, Nat.le_refl _, fun _ => ⟨g, 0, rfl, hg, fun j hj => by
    have e : j = 0 := by have : smN.length = 1 := rfl; omega
    subst e
    exact ⟨cell_of_row w g 0 _ _ _ h, cell_of_row w g 1 _ _ _ h⟩⟩⟩
theorem smD_byt {w : World} {g : Nat} (hg : g < w.heap.size) (h : w.heap[g]? = some (.cells #[.int .u8 1, .int .u8 2, .int .u8 3, .int .u8 4] 5 (0, 0))) : Byt w (.slice (some ⟨g, 0, none⟩) 4 4) [1, 2, 3, 4] :=
  ⟨_, 4, rfl, Nat.le_refl _, (fun e => by cases e), fun _ => ⟨g, 0, rfl, hg, fun j hj => by
    have e : j = 0 ∨ j = 1 ∨ j = 2 ∨ j = 3 := by simp at hj; omega
    rcases e with rfl | rfl | rfl | rfl
    · exact cell_of_row w g 0 _ _ _ h
    · exact cell_of_row w g 1 _ _ _ h
    · exact cell_of_row w g 2 _ _ _ h
    · exact cell_of_row w g 3 _ _ _ h⟩⟩
set_option maxHeartbeats 2000000 in
theorem sample_c (w : World) : Calls Tryz.prog 5 #[] w fun e w' => ∃ vs vn m c, e = .returned (.agg #[.int .u64 (n64 2147483648#64), vs, vn]) ∧ Img w' vs vn (smL m c) smN ∧ Dta w' (smL m c) smD ∧ Below w.heap.size w w' := by
  go_enter Tryz.func5, Tryz.ntmps5
  go_wp2
  have hA := alloc4 w (.cells #[.int .u64 2147483648, .slice (some ⟨w.heap.size + 1 + 1, 0, none⟩) 1 1, .slice (some ⟨w.heap.size + 1 + 1 + 1, 0, none⟩) 1 1] 26) (.cells #[.int .u8 1, .int .u8 2, .int .u8 3, .int .u8 4] 5) (.cells #[.int .u64 2147483648, .int .u64 6, .int .i64 5, .slice (some ⟨w.heap.size + 1, 0, none⟩) 4 4] 42) (.cells #[.string ⟨#[95, 115, 116, 97, 114, 116]⟩, .int .u64 2147483648] 45)
  have hB : Below w.heap.size w ((((w.alloc (.cells #[.int .u64 2147483648, .slice (some ⟨w.heap.size + 1 + 1, 0, none⟩) 1 1, .slice (some ⟨w.heap.size + 1 + 1 + 1, 0, none⟩) 1 1] 26)).alloc (.cells #[.int .u8 1, .int .u8 2, .int .u8 3, .int .u8 4] 5)).alloc (.cells #[.int .u64 2147483648, .int .u64 6, .int .i64 5, .slice (some ⟨w.heap.size + 1, 0, none⟩) 4 4] 42)).alloc (.cells #[.string ⟨#[95, 115, 116, 97, 114, 116]⟩, .int .u64 2147483648] 45)) :=
    ((((Below.refl _ _).alloc (Nat.le_refl _) _).alloc (by simp) _).alloc (by simp <;> omega) _).alloc (by simp <;> omega) _
  generalize ((((w.alloc (.cells #[.int .u64 2147483648, .slice (some ⟨w.heap.size + 1 + 1, 0, none⟩) 1 1, .slice (some ⟨w.heap.size + 1 + 1 + 1, 0, none⟩) 1 1] 26)).alloc (.cells #[.int .u8 1, .int .u8 2, .int .u8 3, .int .u8 4] 5)).alloc (.cells #[.int .u64 2147483648, .int .u64 6, .int .i64 5, .slice (some ⟨w.heap.size + 1, 0, none⟩) 4 4] 42)).alloc (.cells #[.string ⟨#[95, 115, 116, 97, 114, 116]⟩, .int .u64 2147483648] 45)) = W at *
  obtain ⟨h0, h1, h2, h3, hs⟩ := hA
  refine bodyPost_ret (v := .agg #[.int .u64 2147483648, .slice (some ⟨w.heap.size + 1 + 1, 0, none⟩) 1 1, .slice (some ⟨w.heap.size + 1 + 1 + 1, 0, none⟩) 1 1]) (results_cell_row Tryz.results5 _ _ w.heap.size 26 _ (0, 0) _ (by rfl) h0 Tryz.underlying26 (by rfl) size_img) rfl ⟨_, _, some ⟨w.heap.size + 1, 0, none⟩, 4, rfl, ⟨smL_sgs (by omega) h2, smN_sys (by omega) h3, fun j hj => ?_, fun j hj => ?_⟩, fun j hj => ?_, hB⟩
  · have e : j = 0 := by have : (smL (some ⟨w.heap.size + 1, 0, none⟩) 4).length = 1 := rfl; omega
    subst e
    show 4 ≤ 140737488355328
    omega
  · have e : j = 0 := by have : smN.length = 1 := rfl; omega
    subst e
    show 6 ≤ 140737488355328
    omega
  · have e : j = 0 := by have : (smL (some ⟨w.heap.size + 1, 0, none⟩) 4).length = 1 := rfl; omega
    subst e
    exact ⟨rfl, smD_byt (by omega) h1⟩
end Go.Proofs.YtopddflnahfomaaGreatDoor
namespace Go.Proofs.YtopddflnahfomaaGreatDoor
set_option linter.unusedVariables false
set_option maxRecDepth 100000
open Go.ChangeShapes Go.WideShapes Go.ChangeAt Go.RowKit Go.Deep
theorem sm_cut : (smB.drop 120).take 4 = [1, 2, 3, 4] := of_decide_eq_true (by kernel_rfl)
theorem dts_one {b : List Int} {B : Nat} {w : World} {L : List Sg} {p : Pt} (h : Dts b B w L [p]) : ∃ x, L = [x] ∧ SgPt b B w x p := by
  cases h with
  | cons h1 h2 _ => cases h2; exact ⟨_, rfl, h1⟩
theorem sm_part {B : Nat} {w : World} {u v : Value} {L : List Sg} (h : ImO smB B w u v L) (m : Option Addr) (c : Nat) : Alike (smL m c) L ∧ Dta w L smD := by
  have hd := h.data
  rw [sm_pa] at hd
  obtain ⟨x, rfl, h1, h2, h3, h4⟩ := dts_one hd
  have hb : Byt w (.slice x.m x.n x.c) ((smB.drop 120).take 4) := Byt.of_own h4
  have hn : x.n = 4 := own_n h4
  rw [sm_cut] at hb
  refine ⟨⟨rfl, fun j hj => ?_, fun j hj => ?_, fun j hj => ?_, fun j hj => ?_⟩, fun j hj => ?_⟩
  all_goals
    have e : j = 0 := Nat.lt_one_iff.1 hj
    subst e
  · exact h1
  · exact h2
  · exact h3
  · exact hn
  · exact ⟨hn.symm, hb⟩
/-- The sample that was read, and the sample. -/
theorem sm_alike {B : Nat} {w : World} {u v vs vn : Value} {L : List Sg} (h : ImO smB B w u v L) (m : Option Addr) (c : Nat) (hi : Img w vs vn (smL m c) smN) (hd : Dta w (smL m c) smD) :
    Calls Tryz.prog 10 #[.agg #[.int .u64 (n64 2147483648#64), u, v], .agg #[.int .u64 (n64 2147483648#64), vs, vn]] w fun e w' => e = .returned (.bool true) ∧ Below w.heap.size w w' := by
  have hq := h.imq
  rw [sm_srt] at hq
  exact alike_c _ u v vs vn (smL m c) L smN smD (by show 1 ≤ _; omega) (by show 1 ≤ _; omega) w hq ⟨hi.segs, hi.syms⟩ (sm_part h m c).1 (sm_part h m c).2 hd
end Go.Proofs.YtopddflnahfomaaGreatDoor
namespace Go.Proofs.YtopddflnahfomaaGreatDoor
set_option linter.unusedVariables false
set_option maxRecDepth 100000
open Go.ChangeShapes Go.WideShapes Go.ChangeAt Go.RowKit Go.Deep
theorem sm_slice {w : World} {v : Value} (h : Byt w v smB) : ∃ a cap, v = .slice a 472 cap := by
  obtain ⟨a, cap, e, _⟩ := h
  exact ⟨a, cap, by rw [e, sm_len]⟩
/-- What Write makes of the sample. -/
theorem sm_write (w : World) (vs vn : Value) (m : Option Addr) (c : Nat) (hi : Img w vs vn (smL m c) smN) (hd : Dta w (smL m c) smD) (hT : Tabs w) :
    Calls Tryz.prog 6 #[.agg #[.int .u64 (n64 2147483648#64), vs, vn]] w fun e w' => ∃ a cap, e = .returned (.tuple #[.slice a 472 cap, .int .i64 0]) ∧ Byt w' (.slice a 472 cap) smB ∧ Below w.heap.size w w' := by
  refine (pwrite 2147483648#64 vs vn (smL m c) smN smD (by show 1 ≤ _; omega) (by show 1 ≤ _; omega) w hi hd hT 0 (sm_ck m c).symm).mono ?_
  rintro e w' ⟨v, rfl, hv, _, hb⟩
  rw [sm_ans] at hv
  obtain ⟨a, cap, rfl⟩ := sm_slice hv
  exact ⟨a, cap, rfl, hv, hb⟩
/-- What Read makes of its file. -/
theorem sm_read (w : World) (vb : Value) (hv : Byt w vb smB) (hT : Tabs w) (hE : EtW w) :
    Calls Tryz.prog 9 #[vb] w fun e w' => ∃ u v L, e = .returned (.tuple #[.agg #[.int .u64 (n64 2147483648#64), u, v], .nilIface]) ∧ ImO smB w.heap.size w' u v L ∧ Below w.heap.size w w' := by
  refine (read_c sm_all (by rw [sm_len]; omega) vb w hv hT hE).mono ?_
  rintro e w' (⟨_, u, v, L, rfl, h, hb⟩ | ⟨F, g, hF, _⟩)
  · exact ⟨u, v, L, by rw [sm_en]; rfl, h, hb⟩
  · rw [sm_rd] at hF; cases hF
theorem nil_read (w : World) (hT : Tabs w) (hE : EtW w) :
    Calls Tryz.prog 9 #[.slice none 0 0] w fun e w' => ∃ g, e = .returned (.tuple #[.agg #[.int .u64 0, .slice none 0 0, .slice none 0 0], .iface 65 (.pointer (some ⟨g, 0, none⟩))]) ∧ Below w.heap.size w w' := by
  refine (read_c (b := []) (fun x hx => by simp at hx) (by simp) _ w (Byt.nil w) hT hE).mono ?_
  rintro e w' (⟨h, _⟩ | ⟨F, g, hF, rfl, _, _, hb⟩)
  · obtain ⟨F, hF⟩ := nil_rd; rw [hF] at h; cases h
  · exact ⟨g, rfl, hb⟩
end Go.Proofs.YtopddflnahfomaaGreatDoor
