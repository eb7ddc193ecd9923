/-
  Iyb.
-/
import Derived.Test.YtheeogbmljjbdaaGreatDoorM38
namespace Go.Proofs.YtheeogbmljjbdaaGreatDoor
set_option linter.unusedVariables false
set_option maxRecDepth 100000
open Go.ChangeShapes Go.WideShapes Go.ChangeAt Go.RowKit Go.Deep
theorem own_n {w : World} {B e size n : Nat} {m : Option Addr} {k c : Nat} {xs : List Value} (h : w.ownsRow B e size (.slice m k c) n xs) : k = n := by
  rcases h.2 with ⟨h', h0⟩ | ⟨g', cap', cur, h', _⟩
  · cases h'; exact h0.symm
  · cases h'; rfl
theorem own_keepB {w w' : World} {B e size n : Nat} {v : Value} {xs : List Value} (h : w.ownsRow B e size v n xs) (k : ∀ j, B ≤ j → j < w.heap.size → w'.heap[j]? = w.heap[j]?) : w'.ownsRow B e size v n xs := by
  refine ⟨h.1, ?_⟩
  rcases h.2 with h' | ⟨g, cap, cur, rfl, h1, h2, h3⟩
  · exact .inl h'
  · exact .inr ⟨g, cap, cur, rfl, h1, by rw [k g h1 (heap_lt h2)]; exact h2, h3⟩
theorem Dts.keepB {b : List Int} {B : Nat} {w w' : World} {L : List Sg} {l : List Pt} (h : Dts b B w L l) (k : ∀ j, B ≤ j → j < w.heap.size → w'.heap[j]? = w.heap[j]?) : Dts b B w' L l := by
  induction h with
  | nil => exact .nil
  | cons h1 _ ih => exact .cons ⟨h1.1, h1.2.1, h1.2.2.1, own_keepB h1.2.2.2 k⟩ ih
theorem ImO.keepB {b : List Int} {B : Nat} {w w' : World} {u v : Value} {L : List Sg} (h : ImO b B w u v L) (k : ∀ j, B ≤ j → j < w.heap.size → w'.heap[j]? = w.heap[j]?) : ImO b B w' u v L := ⟨own_keepB h.segs k, h.data.keepB k, own_keepB h.syms k⟩
def ptz : Pt := ⟨0, 0, 0, 0, 0⟩
theorem Dts.at {b : List Int} {B : Nat} {w : World} {L : List Sg} {l : List Pt} (h : Dts b B w L l) : ∀ j, j < L.length → SgPt b B w (sg L j) (l.getD j ptz) := by
  induction h with
  | nil => intro j hj; simp at hj
  | @cons x p L l h1 _ ih =>
    intro j hj
    cases j with
    | zero => exact h1
    | succ j => exact ih j (by simpa using hj)
theorem Dts.alike {b : List Int} {B B' : Nat} {w w' : World} {L M : List Sg} {l : List Pt} (h : Dts b B w L l) (h' : Dts b B' w' M l) : Alike L M := by
  have e : M.length = L.length := by rw [h'.len, h.len]
  refine ⟨e, fun j hj => ?_, fun j hj => ?_, fun j hj => ?_, fun j hj => ?_⟩
  all_goals
    have q := h.at j hj
    have q' := h'.at j (by omega)
  · rw [q.1, q'.1]
  · rw [q.2.1, q'.2.1]
  · rw [q.2.2.1, q'.2.2.1]
  · rw [own_n q.2.2.2, own_n q'.2.2.2]
def ptD (b : List Int) (l : List Pt) (j : Nat) : List Int := (b.drop (l.getD j ptz).p).take (l.getD j ptz).n
theorem Dts.dta {b : List Int} {B : Nat} {w : World} {L : List Sg} {l : List Pt} (h : Dts b B w L l) : Dta w L (ptD b l) := fun j hj => by
  have q := (h.at j hj).2.2.2
  refine ⟨?_, Byt.of_own q⟩
  have e := q.1
  rw [bv_len, Nat.mul_one] at e
  rw [own_n q]
  exact e
theorem ImO.imq {b : List Int} {B : Nat} {w : World} {u v : Value} {L : List Sg} (h : ImO b B w u v L) : Imq w u v L (nSrt (nsR b).1) := ⟨Sgs.of_own h.segs, Sys.of_own h.syms⟩
theorem ImO.small {b : List Int} {B : Nat} {w : World} {u v : Value} {L : List Sg} (hB : AllB b) (h : ImO b B w u v L) : L.length ≤ 140737488355328 := by
  have e := h.data.len
  have e2 : (paL b).length = (prL b (vl b 32 8) (vl b 56 2)).1.length := (List.mergeSort_perm _ _).length_eq
  have e3 := prL_len b (vl b 32 8) (vl b 56 2)
  have e4 : vl b 56 2 < 256 ^ 2 := vl_lt hB 56 2
  omega
theorem nSrt_len (l : List Sy) : (nSrt l).length = l.length := (List.mergeSort_perm l (fun x y => !ahS y x)).length_eq
/-- Two images of one file. -/
theorem alike_im {b : List Int} {B B' : Nat} {w : World} {u v u' v' : Value} {L M : List Sg} (hB : AllB b) (h : ImO b B w u v L) (h' : ImO b B' w u' v' M) :
    Calls Tryz.prog 15 #[.agg #[.int .u64 ((vl b 24 8 : Nat) : Int), u, v], .agg #[.int .u64 ((vl b 24 8 : Nat) : Int), u', v']] w fun e w' => e = .returned (.bool true) ∧ Below w.heap.size w w' := by
  rw [nat64 (vl_lt8 hB 24 8 (by omega))]
  exact alike_c _ u v u' v' M L (nSrt (nsR b).1) (ptD b (paL b)) (h'.small hB) (by rw [nSrt_len]; have := nsR_len b; omega) w h.imq h'.imq (h'.data.alike h.data) h.data.dta h'.data.dta
theorem alike_nil (w : World) : Calls Tryz.prog 15 #[.agg #[.int .u64 0, .slice none 0 0, .slice none 0 0], .agg #[.int .u64 0, .slice none 0 0, .slice none 0 0]] w fun e w' => e = .returned (.bool true) ∧ Below w.heap.size w w' := by
  have hs : Sgs w (.slice none 0 0) [] := ⟨none, 0, rfl, Nat.le_refl _, fun h => absurd rfl h⟩
  have hy : Sys w (.slice none 0 0) [] := ⟨none, 0, rfl, Nat.le_refl _, fun h => absurd rfl h⟩
  exact alike_c 0#64 _ _ _ _ [] [] [] (fun _ => []) (by simp) (by simp) w ⟨hs, hy⟩ ⟨hs, hy⟩ ⟨rfl, fun j h => by simp at h, fun j h => by simp at h, fun j h => by simp at h, fun j h => by simp at h⟩ (fun j h => by simp at h) (fun j h => by simp at h)
theorem num_c (z : Int) (w : World) : Calls Tryz.prog 13 #[.int .i64 z] w fun e w' => e = .returned (.int .i64 z) ∧ w' = w := by
  go_enter Tryz.func13, Tryz.ntmps13
  go_wp2
  go_ret
  exact ⟨rfl, rfl⟩
theorem place_n (w : World) : Calls Tryz.prog 18 #[.nilIface] w fun e w' => e = .returned (.tuple #[.agg #[.int .i64 0, .int .i64 0, .int .i64 0], .bool true]) ∧ Below w.heap.size w w' := by
  have HB : Hid (Below w.heap.size w (w.alloc (.cells #[.int .i64 0, .int .i64 0, .int .i64 0] 46))) := below_al _
  have R0 : Hid ((w.alloc (.cells #[.int .i64 0, .int .i64 0, .int .i64 0] 46)).heap[w.heap.size]? = some (.cells #[.int .i64 0, .int .i64 0, .int .i64 0] 46 (0, 0))) := heap_alloc_new w _
  have hnil : ∀ w : World, (binOp .eql 36 .nilIface .nilIface).run Tryz.prog w = .ok (.bool true) w := fun w => by kernel_rfl
  have heg : ∀ (w : World), (eqGuard .eql 36 (.tmp 6) (.const .nilIface) .nilIface .nilIface).run Tryz.prog w = .ok () w := fun w => by kernel_rfl
  go_enter Tryz.func18, Tryz.ntmps18
  go_upto_region 1 with fail
  generalize w.alloc (.cells #[.int .i64 0, .int .i64 0, .int .i64 0] 46) = W1 at *
  have b0 := cell_of_row W1 w.heap.size 0 _ _ _ R0.out
  have b1 := cell_of_row W1 w.heap.size 1 _ _ _ R0.out
  have b2 := cell_of_row W1 w.heap.size 2 _ _ _ R0.out
  have f0 := frozen_of_row W1 w.heap.size 0 _ _ R0.out
  have f1 := frozen_of_row W1 w.heap.size 1 _ _ R0.out
  have f2 := frozen_of_row W1 w.heap.size 2 _ _ R0.out
  go_wp2
  exact bodyPost_ret (v := .tuple #[.agg #[.int .i64 0, .int .i64 0, .int .i64 0], .bool true]) (results_rs Tryz.results18 _ _ w.heap.size 46 _ (0, 0) _ _ (by rfl) (by rfl) (set3_at R0.out _ _ _) Tryz.underlying46 (by rfl) size_flt) rfl ⟨rfl, below_set3 HB.out (Nat.le_refl _) _ _ _⟩
set_option maxHeartbeats 4000000 in
theorem place_f (g : Nat) (x y : Int) (w : World) (hE : Hid (EtW w)) (hg : w.heap[g]? = some (.cells #[.int .i64 0, .int .i64 x, .int .i64 y] 46 (0, 0))) :
    Calls Tryz.prog 18 #[.iface 79 (.pointer (some ⟨g, 0, none⟩))] w fun e w' => e = .returned (.tuple #[.agg #[.int .i64 0, .int .i64 x, .int .i64 y], .bool true]) ∧ Below w.heap.size w w' := by
  obtain ⟨W1, hW1⟩ : ∃ W1, (w.alloc (.cells #[.int .i64 0, .int .i64 0, .int .i64 0] 46)).alloc (.cells #[.pointer none] 79) = W1 := ⟨_, rfl⟩
  have hgl := heap_lt hg
  have HB : Hid (Below w.heap.size w W1) := by rw [← hW1]; exact ((Below.refl _ _).alloc (Nat.le_refl _) _).alloc (by simp) _
  have R0 : Hid (W1.heap[w.heap.size]? = some (.cells #[.int .i64 0, .int .i64 0, .int .i64 0] 46 (0, 0))) := by rw [← hW1]; exact heap_alloc2_old w _ _
  have R1 : Hid (W1.heap[w.heap.size + 1]? = some (.cells #[.pointer none] 79 (0, 0))) := by rw [← hW1]; exact heap_alloc2_new w _ _
  have hsz : Hid (W1.heap.size = w.heap.size + 2) := by unfold Hid; rw [← hW1]; simp
  have cA : Hid (Calls Tryz.prog 38 #[.iface 79 (.pointer (some ⟨g, 0, none⟩)), .iface 81 (.pointer (some ⟨w.heap.size + 1, 0, none⟩))] W1 fun ev w' => ev = .returned (.bool true) ∧ w' = asW W1 ⟨g, 0, none⟩ ⟨w.heap.size + 1, 0, none⟩) := asHit_c _ _ (.pointer none) _ (hE.out.below HB.out rfl) (cell_of_row W1 _ 0 _ _ _ R1.out) (frozen_of_row W1 _ 0 _ _ R1.out)
  have H2 : Hid (Below (w.heap.size + 1) W1 (asW W1 ⟨g, 0, none⟩ ⟨w.heap.size + 1, 0, none⟩)) := asW_below _ _ (Below.refl _ _) (by rw [hsz.out]; omega) (Nat.le_refl _)
  have RT : Hid ((asW W1 ⟨g, 0, none⟩ ⟨w.heap.size + 1, 0, none⟩).heap[w.heap.size + 1]? = some (.cells #[.pointer (some ⟨g, 0, none⟩)] 79 (0, 0))) := asW_t _ _ _ _ (.pointer none) R1.out
  generalize asW W1 ⟨g, 0, none⟩ ⟨w.heap.size + 1, 0, none⟩ = W2 at cA H2 RT
  have RF : Hid (W2.heap[w.heap.size]? = some (.cells #[.int .i64 0, .int .i64 0, .int .i64 0] 46 (0, 0))) := (H2.out.block _ (by omega)).trans R0.out
  have RG : Hid (W2.heap[g]? = some (.cells #[.int .i64 0, .int .i64 x, .int .i64 y] 46 (0, 0))) := (H2.out.block _ (by omega)).trans ((HB.out.block _ hgl).trans hg)
  have HB2 : Hid (Below w.heap.size w W2) := HB.out.trans (H2.out.mono (by omega))
  have hnil : ∀ w : World, (binOp .eql 36 (.iface 79 (.pointer (some ⟨g, 0, none⟩))) .nilIface).run Tryz.prog w = .ok (.bool false) w := fun w => by kernel_rfl
  have heg : ∀ (w : World), (eqGuard .eql 36 (.tmp 6) (.const .nilIface) (.iface 79 (.pointer (some ⟨g, 0, none⟩))) .nilIface).run Tryz.prog w = .ok () w := fun w => by kernel_rfl
  have hpn : ∀ w : World, (binOp .eql 79 (.pointer (some ⟨g, 0, none⟩)) (.pointer none)).run Tryz.prog w = .ok (.bool false) w := fun w => by kernel_rfl
  have t0 := cell_of_row W2 (w.heap.size + 1) 0 _ _ _ RT.out
  have g0 := cell_of_row W2 g 0 _ _ _ RG.out
  have g1 := cell_of_row W2 g 1 _ _ _ RG.out
  have g2 := cell_of_row W2 g 2 _ _ _ RG.out
  have b0 := cell_of_row W2 w.heap.size 0 _ _ _ RF.out
  have b1 := cell_of_row W2 w.heap.size 1 _ _ _ RF.out
  have b2 := cell_of_row W2 w.heap.size 2 _ _ _ RF.out
  have f0 := frozen_of_row W2 w.heap.size 0 _ _ RF.out
  have f1 := frozen_of_row W2 w.heap.size 1 _ _ RF.out
  have f2 := frozen_of_row W2 w.heap.size 2 _ _ RF.out
  clear hg hE
  go_enter Tryz.func18, Tryz.ntmps18
  go_upto_region 4 with fail
  try rw [hW1]
  clear hW1
  go_wp2_with (go_at_call 38; refine cA.out.mono ?_; rintro e w3 ⟨rfl, hw3⟩; subst hw3)
  exact bodyPost_ret (v := .tuple #[.agg #[.int .i64 0, .int .i64 x, .int .i64 y], .bool true]) (results_rs Tryz.results18 _ _ w.heap.size 46 _ (0, 0) _ _ (by rfl) (by rfl) (set3_at RF.out _ _ _) Tryz.underlying46 (by rfl) size_flt) rfl ⟨rfl, below_set3 HB2.out (Nat.le_refl _) _ _ _⟩
end Go.Proofs.YtheeogbmljjbdaaGreatDoor
