/- ArithAtomics -/
import Derived.Test.YthnjppfgdkiaaacHal
import Derived.Test.YthnjppfgdkiaaacAm
import Derived.Test.YthnjppfgdkiaaacMem
import Derived.Deep.RegionWith
namespace Go.Proofs.Ythnjppfgdkiaaac.arithAtomics
open Go.ChangeShapes Go.WideShapes Go.ChangeAt Go.RowKit

def ds (k : Nat) : Int := ([89, 90, 91, 92] : List Int).getD k 0
def ws (k : Nat) : Int := ([78, 79, 80, 81] : List Int).getD k 0
def ks (k : Nat) : Int := ([35, 40, 44, 43] : List Int).getD k 0
def bV (k : Nat) (x y : BitVec 64) : BitVec 64 := ([x + y, x ^^^ y, x &&& y, x ||| y] : List (BitVec 64)).getD k 0#64
theorem am_d (k : Nat) (hk : k < 4) (x y : BitVec 64) (w : World) : Calls Try.prog 7 #[.int .i64 (ds k), .int .u64 (n64 x), .int .u64 (n64 y)] w fun e w' => e = .returned (.int .u64 (n64 (bV k x y))) ∧ Below w.heap.size w w' := by
  match k, hk with
  | 0, _ => exact am_addD x y _ rfl w
  | 1, _ => exact am_xorD x y _ rfl w
  | 2, _ => exact am_andD x y _ rfl w
  | 3, _ => exact am_orD x y _ rfl w
theorem am_w (k : Nat) (hk : k < 4) (x y : BitVec 64) (w : World) : Calls Try.prog 7 #[.int .i64 (ws k), .int .u64 (n64 x), .int .u64 (n64 y)] w fun e w' => e = .returned (.int .u64 (n64 (wid (bV k (wid x) (wid y))))) ∧ Below w.heap.size w w' := by
  match k, hk with
  | 0, _ => exact am_addW x y _ rfl w
  | 1, _ => exact am_xorW x y _ rfl w
  | 2, _ => exact am_andW x y _ rfl w
  | 3, _ => exact am_orW x y _ rfl w
theorem op_k (k : Nat) (hk : k < 4) (x y : BitVec 64) (w : World) : Calls Try.prog 9 #[.int .i64 (ks k), .int .u64 (n64 x), .int .u64 (n64 y)] w fun e w' => e = .returned (.int .u64 (n64 (bV k x y))) ∧ Below w.heap.size w w' := by
  match k, hk with
  | 0, _ => exact o_add x y w
  | 1, _ => exact o_xor x y w
  | 2, _ => exact o_and x y w
  | 3, _ => exact o_or x y w
theorem bV_wid (k : Nat) (hk : k < 4) (x y : BitVec 64) : wid (bV k (wid x) (wid y)) = wid (bV k x y) := by
  match k, hk with
  | 0, _ => exact wid_congr (by show (wid x + wid y).setWidth 32 = (x + y).setWidth 32; rw [BitVec.setWidth_add _ _ (by decide), BitVec.setWidth_add _ _ (by decide), sw_wid, sw_wid])
  | 1, _ => exact wid_congr (by show (wid x ^^^ wid y).setWidth 32 = (x ^^^ y).setWidth 32; rw [BitVec.setWidth_xor, BitVec.setWidth_xor, sw_wid, sw_wid])
  | 2, _ => exact wid_congr (by show (wid x &&& wid y).setWidth 32 = (x &&& y).setWidth 32; rw [BitVec.setWidth_and, BitVec.setWidth_and, sw_wid, sw_wid])
  | 3, _ => exact wid_congr (by show (wid x ||| wid y).setWidth 32 = (x ||| y).setWidth 32; rw [BitVec.setWidth_or, BitVec.setWidth_or, sw_wid, sw_wid])
theorem wid_pick (c : Bool) (x y : BitVec 64) : wid (if c then wid x else wid y) = if c then wid x else wid y := by
  cases c <;> simp [wid_wid]

set_option maxRecDepth 20000 in
set_option maxHeartbeats 4000000 in
theorem walk (k : Int) (_ : (Lit.int .i64 k).wf = true) (a b : BitVec 64) (i : Int) (_ : (Lit.int .i64 i).wf = true) (j : Int) (_ : (Lit.int .i64 j).wf = true) (w : World) :
    Calls Try.prog 3 #[.agg #[.int .i64 k, .int .u64 (n64 a), .int .u64 (n64 b), .int .i64 i, .int .i64 j]] w fun e w' => e = .returned (.bool true) ∧ Below w.heap.size w w' := by
  have hne := later_nonempty (w.alloc (.cells #[.int .i64 k, .int .u64 (n64 a), .int .u64 (n64 b), .int .i64 i, .int .i64 j] 24))
  have hz : ∀ _ : Later (w.alloc (.cells #[.int .i64 k, .int .u64 (n64 a), .int .u64 (n64 b), .int .i64 i, .int .i64 j] 24)), w.heap.size < (w.alloc (.cells #[.int .i64 k, .int .u64 (n64 a), .int .u64 (n64 b), .int .i64 i, .int .i64 j] 24)).heap.size := fun _ => by simp
  have hc1 : ∀ x : Later (w.alloc (.cells #[.int .i64 k, .int .u64 (n64 a), .int .u64 (n64 b), .int .i64 i, .int .i64 j] 24)), x.1.cell? ⟨w.heap.size, 1, none⟩ = some (.int .u64 (n64 a)) := fun x => by rw [later_cell x (hz x)]; simp
  have hc2 : ∀ x : Later (w.alloc (.cells #[.int .i64 k, .int .u64 (n64 a), .int .u64 (n64 b), .int .i64 i, .int .i64 j] 24)), x.1.cell? ⟨w.heap.size, 2, none⟩ = some (.int .u64 (n64 b)) := fun x => by rw [later_cell x (hz x)]; simp
  clear hz
  have q1 : (n64 (wid (wid b)) != n64 (wid b)) = false := ne_false (wid_wid b)
  have q2 : (n64 (wid (sMin (wid a) (wid b))) != n64 (sMin (wid a) (wid b))) = false := ne_false (wid_pick _ _ _)
  have q3 : (n64 (wid (sMax (wid a) (wid b))) != n64 (sMax (wid a) (wid b))) = false := ne_false (wid_pick _ _ _)
  have q4 : (n64 (wid (uMin (wid a) (wid b))) == n64 (uMin (wid a) (wid b))) = true := eq_true (wid_pick _ _ _)
  have q5 : (n64 (wid (uMax (wid a) (wid b))) == n64 (uMax (wid a) (wid b))) = true := eq_true (wid_pick _ _ _)
  go_enter Try.func3, Try.ntmps3
  go_wp2_with fail
  refine wp_region_later (x0 := Later.start (w.alloc (.cells #[.int .i64 k, .int .u64 (n64 a), .int .u64 (n64 b), .int .i64 i, .int .i64 j] 24))) (by kernel_rfl) (by kernel_rfl) ?_
  repeat (go_big_quiet_step ((first
        | (go_at_call 8; exact calls_later_same (halfLaw_any _ _))
        | (go_at_call 6; exact calls_later (live_any _))
        | (go_at_call_of 7 (Value.int IntKind.i64 88); exact calls_later (am_swapD _ _ _ rfl _))
        | (go_at_call_of 7 (Value.int IntKind.i64 77); exact calls_later (am_swapW _ _ _ rfl _))
        | (go_at_call_of 7 (Value.int IntKind.i64 82); exact calls_later (am_lesserW _ _ _ rfl _))
        | (go_at_call_of 7 (Value.int IntKind.i64 93); exact calls_later (am_lesserD _ _ _ rfl _))
        | (go_at_call_of 7 (Value.int IntKind.i64 83); exact calls_later (am_greaterW _ _ _ rfl _))
        | (go_at_call_of 7 (Value.int IntKind.i64 94); exact calls_later (am_greaterD _ _ _ rfl _))
        | (go_at_call_of 7 (Value.int IntKind.i64 84); exact calls_later (am_lesserPlainW _ _ _ rfl _))
        | (go_at_call_of 7 (Value.int IntKind.i64 95); exact calls_later (am_lesserPlainD _ _ _ rfl _))
        | (go_at_call_of 7 (Value.int IntKind.i64 85); exact calls_later (am_greaterPlainW _ _ _ rfl _))
        | (go_at_call_of 7 (Value.int IntKind.i64 96); exact calls_later (am_greaterPlainD _ _ _ rfl _)))))
  refine wpQuiet_nil ?_
  rintro _ ⟨yq, rfl⟩
  go_wp2_with fail
  have hU : w.heap.size < yq.1.heap.size := by have := yq.2.size; simp at this; omega
  obtain ⟨W, hW⟩ : ∃ W, W = (((yq.1.alloc (.cells #[.int .i64 89, .int .i64 90, .int .i64 91, .int .i64 92] 3)).alloc (.cells #[.int .i64 78, .int .i64 79, .int .i64 80, .int .i64 81] 3)).alloc (.cells #[.int .i64 35, .int .i64 40, .int .i64 44, .int .i64 43] 3)) := ⟨_, rfl⟩
  have hsz : W.heap.size = yq.1.heap.size + 3 := by rw [hW]; simp
  have hneW := later_nonempty W
  have hd1 : ∀ x : Later W, x.1.cell? ⟨w.heap.size, 1, none⟩ = some (.int .u64 (n64 a)) := fun x => by
    rw [later_cell x (by show w.heap.size < _; omega), hW, World.cell?_alloc_past _ _ _ (by simp; omega), World.cell?_alloc_past _ _ _ (by simp; omega), World.cell?_alloc_past _ _ _ hU, hc1]
  have hd2 : ∀ x : Later W, x.1.cell? ⟨w.heap.size, 2, none⟩ = some (.int .u64 (n64 b)) := fun x => by
    rw [later_cell x (by show w.heap.size < _; omega), hW, World.cell?_alloc_past _ _ _ (by simp; omega), World.cell?_alloc_past _ _ _ (by simp; omega), World.cell?_alloc_past _ _ _ hU, hc2]
  have hf0 : ∀ (x : Later W) (k : Nat), k < 4 → x.1.cell? ⟨yq.1.heap.size, k, none⟩ = some (.int .i64 (ds k)) := fun x k hk => by
    rw [later_cell x (by show yq.1.heap.size < _; omega), hW, alloc3_0]
    match k, hk with
    | 0, _ => rfl
    | 1, _ => rfl
    | 2, _ => rfl
    | 3, _ => rfl
  have hf1 : ∀ (x : Later W) (k : Nat), k < 4 → x.1.cell? ⟨yq.1.heap.size + 1, k, none⟩ = some (.int .i64 (ws k)) := fun x k hk => by
    rw [later_cell x (by show yq.1.heap.size + 1 < _; omega), hW, alloc3_1]
    match k, hk with
    | 0, _ => rfl
    | 1, _ => rfl
    | 2, _ => rfl
    | 3, _ => rfl
  have hf2 : ∀ (x : Later W) (k : Nat), k < 4 → x.1.cell? ⟨yq.1.heap.size + 1 + 1, k, none⟩ = some (.int .i64 (ks k)) := fun x k hk => by
    rw [later_cell x (by show yq.1.heap.size + 1 + 1 < _; omega), hW, alloc3_2]
    match k, hk with
    | 0, _ => rfl
    | 1, _ => rfl
    | 2, _ => rfl
    | 3, _ => rfl
  have hbel : Below w.heap.size w W := by
    rw [hW]
    refine ((((Below.refl _ _).alloc (Nat.le_refl _) _).trans (yq.2.mono (by simp))).alloc (by omega) _).alloc (by simp; omega) _ |>.alloc (by simp; omega) _
  rw [← hW]
  have HB : Hid (Below w.heap.size w W) := hbel
  clear hW hbel hc1 hc2 hne
  go_loopw [6] (fun i wr => ∃ k : Nat, k ≤ 4 ∧ i = .int .i64 k ∧ ∃ y : Later W, wr = y.1) (fun i _ => 4 - (intOf i).toNat)
  case atStart => exact ⟨0, Nat.zero_le _, rfl, Later.start W, rfl⟩
  case round =>
    obtain ⟨k, hk, rfl, y, rfl⟩ := hrel
    by_cases hlt : k < 4
    · have hl1 : (0 : Int) ≤ (k : Int) := by omega
      have hl2 : (k : Int) < 4 := by omega
      have h0k : ∀ x : Later W, x.1.cell? ⟨yq.1.heap.size, k, none⟩ = some (.int .i64 (ds k)) := fun x => hf0 x k hlt
      have h1k : ∀ x : Later W, x.1.cell? ⟨yq.1.heap.size + 1, k, none⟩ = some (.int .i64 (ws k)) := fun x => hf1 x k hlt
      have h2k : ∀ x : Later W, x.1.cell? ⟨yq.1.heap.size + 1 + 1, k, none⟩ = some (.int .i64 (ks k)) := fun x => hf2 x k hlt
      have q6 : (n64 (wid (bV k (wid a) (wid b))) != n64 (wid (bV k a b))) = false := ne_false (bV_wid k hlt a b)
      clear hf0 hf1 hf2 q1 q2 q3 q4 q5
      go_wp2_with fail
      refine wp_region_later (by kernel_rfl) (by kernel_rfl) ?_
      repeat (go_big_quiet_step ((first
        | (go_at_call 8; exact calls_later_same (halfLaw_any _ _))
        | (go_at_call_of 7 (Value.int IntKind.i64 (ds k)); exact calls_later (am_d k hlt _ _ _))
        | (go_at_call_of 7 (Value.int IntKind.i64 (ws k)); exact calls_later (am_w k hlt _ _ _))
        | (go_at_call_of 9 (Value.int IntKind.i64 (ks k)); exact calls_later (op_k k hlt _ _ _)))))
      refine wpQuiet_nil ?_
      rintro _ ⟨yr, rfl⟩
      go_wp2_with fail
      go_roundw
      case rel => exact ⟨k + 1, by omega, by go_num, yr, rfl⟩
      case measure => simp [intOf]; omega
    · have hl2 : (4 : Int) ≤ (k : Int) := by omega
      clear hf0 hf1 hf2
      go_wp2_with (first
        | (go_at_call 8; refine (calls_later_same (halfLaw_any _ _)).mono ?_; rintro e w' ⟨rfl, y, rfl⟩)
        | (go_at_call 6; refine (calls_later (live_any _)).mono ?_; rintro e w' ⟨rfl, y, rfl⟩)
        | (go_at_call_of 7 (Value.int IntKind.i64 88); refine (calls_later (am_swapD _ _ _ rfl _)).mono ?_; rintro e w' ⟨rfl, y, rfl⟩)
        | (go_at_call_of 7 (Value.int IntKind.i64 77); refine (calls_later (am_swapW _ _ _ rfl _)).mono ?_; rintro e w' ⟨rfl, y, rfl⟩)
        | (go_at_call_of 7 (Value.int IntKind.i64 82); refine (calls_later (am_lesserW _ _ _ rfl _)).mono ?_; rintro e w' ⟨rfl, y, rfl⟩)
        | (go_at_call_of 7 (Value.int IntKind.i64 93); refine (calls_later (am_lesserD _ _ _ rfl _)).mono ?_; rintro e w' ⟨rfl, y, rfl⟩)
        | (go_at_call_of 7 (Value.int IntKind.i64 83); refine (calls_later (am_greaterW _ _ _ rfl _)).mono ?_; rintro e w' ⟨rfl, y, rfl⟩)
        | (go_at_call_of 7 (Value.int IntKind.i64 94); refine (calls_later (am_greaterD _ _ _ rfl _)).mono ?_; rintro e w' ⟨rfl, y, rfl⟩)
        | (go_at_call_of 7 (Value.int IntKind.i64 84); refine (calls_later (am_lesserPlainW _ _ _ rfl _)).mono ?_; rintro e w' ⟨rfl, y, rfl⟩)
        | (go_at_call_of 7 (Value.int IntKind.i64 95); refine (calls_later (am_lesserPlainD _ _ _ rfl _)).mono ?_; rintro e w' ⟨rfl, y, rfl⟩)
        | (go_at_call_of 7 (Value.int IntKind.i64 85); refine (calls_later (am_greaterPlainW _ _ _ rfl _)).mono ?_; rintro e w' ⟨rfl, y, rfl⟩)
        | (go_at_call_of 7 (Value.int IntKind.i64 96); refine (calls_later (am_greaterPlainD _ _ _ rfl _)).mono ?_; rintro e w' ⟨rfl, y, rfl⟩))
      go_ret
      exact ⟨rfl, HB.out.trans ((Later.below _).mono HB.out.size)⟩

theorem own : ownKnob Try.prog.godebug = none := by kernel_rfl
theorem cells : Try.prog.cellsOf 24 = 5 := by kernel_rfl

set_option maxRecDepth 100000 in
theorem lifted (os : Os) (started : os.Started) (H : Type) (enc : TypeId × Value → H) :
    ReturnsInHanded {} Try.checked os 3 .any (Rows.arithAtomicsSpec.pre6 enc Try.prog Try.f3 Rows.arithAtomicsRow.domain false) (Rows.arithAtomicsSpec.post enc Try.prog Try.f3 false true false false) := by
  refine returnsInHanded_of_change (C := Try.checked) own started (by kernel_rfl) Try.func3
    (ChangeSpec.witness6 (enc := enc) (C := Try.checked) false ⟨#[], #[.agg #[.int .i64 0, .int .u64 0, .int .u64 0, .int .i64 0, .int .i64 0]], []⟩ 8 (by kernel_rfl) (by kernel_rfl) (by kernel_rfl) (by kernel_rfl)) ?_
  intro W base args ds gs before hval0 hW hcnd _
  have hval : ∀ (j : Nat) t v, Try.f3.params[j]? = some t → args[j]? = some v → Value.okWide Try.prog W .any base t v := hval0
  have hW' := hW
  obtain ⟨p, q, hA0, hV, rfl, hfz, hnd⟩ := hW
  have hA : DataW.TrodAll enc Try.prog W 0 (fun _ => true) true Try.f3.params.toList args.toList ds p := hA0
  rw [Try.params3] at hA hval
  obtain ⟨v0, vs0, d0, ds0, p0, q0, hargs, rfl, rfl, h0, r0⟩ := trodAll_cons hA
  obtain ⟨rfl, rfl, rfl⟩ := trodAll_nil r0
  obtain rfl : args = #[v0] := by cases args; simp_all
  obtain ⟨rfl, rfl⟩ := trodVars_none hV
  have k0 := h0
  obtain ⟨c0, c1, c2, c3, c4, y0, y1, y2, y3, y4, m, rfl, rfl, rfl, g0, g1, g2, g3, g4⟩ := open_agg5 Try.underlying24 (by kernel_rfl) cells (hval 0 24 v0 rfl rfl) h0
  obtain ⟨i0, e0, rfl, w0⟩ := DataW.trod_int Try.underlying3 g0
  obtain ⟨i1, e1, rfl, w1⟩ := DataW.trod_int Try.underlying22 g1
  obtain ⟨i2, e2, rfl, w2⟩ := DataW.trod_int Try.underlying22 g2
  obtain ⟨i3, e3, rfl, w3⟩ := DataW.trod_int Try.underlying3 g3
  obtain ⟨i4, e4, rfl, w4⟩ := DataW.trod_int Try.underlying3 g4
  simp only [List.cons.injEq, and_true] at e0 e1 e2 e3 e4
  subst e0 e1 e2 e3 e4
  obtain ⟨x1, rfl⟩ := n64_of w1
  obtain ⟨x2, rfl⟩ := n64_of w2
  clear hA0 hval0
  refine (walk i0 w0 x1 x2 i3 w3 i4 w4 W).mono fun e W' ⟨he, bel⟩ => ?_
  subst he
  exact ⟨_, rfl, _, _, _, [], _, [], hW', trodAll_mk1 (shut_bool Try.underlying4 _), trodAll_cons_mk (shut_agg5 (y0 := (.lit (.int .i64 i0), [])) (y1 := (.lit (.int .u64 (n64 x1)), [])) (y2 := (.lit (.int .u64 (n64 x2)), [])) (y3 := (.lit (.int .i64 i3), [])) (y4 := (.lit (.int .i64 i4), [])) Try.underlying24 (by kernel_rfl) cells (shut_int Try.underlying3 w0) (shut_int Try.underlying22 w1) (shut_int Try.underlying22 w2) (shut_int Try.underlying3 w3) (shut_int Try.underlying3 w4)) trodAll_mk0, rfl, bel.frame _, fun h => by cases h⟩

theorem over : Rows.arithAtomicsRow.holds Try.pinned (OpenSpec.ofChange Rows.arithAtomicsSpec) :=
  OpenClaim.holds_of_wide 3 Try.f3 rfl rfl rfl rfl rfl rfl rfl ⟨rfl, rfl, rfl, rfl, rfl⟩ rfl rfl rfl rfl rfl (by kernel_rfl) Try.func3 (by kernel_rfl)
    (of_decide_eq_true (by kernel_rfl)) (by unfold Func.isWrapper; first | (rw [if_pos (by decide +kernel)]; kernel_rfl) | (rw [if_neg (by decide +kernel)]; exact ⟨rfl, rfl⟩))
    (fun os started H enc _ => lifted os started H enc)
end Go.Proofs.Ythnjppfgdkiaaac.arithAtomics
namespace Go.Proofs.Ythnjppfgdkiaaac
theorem arithAtomics_holds : Rows.ArithAtomicsSaid := arithAtomics.over
end Go.Proofs.Ythnjppfgdkiaaac
#print axioms Go.Proofs.Ythnjppfgdkiaaac.arithAtomics_holds
