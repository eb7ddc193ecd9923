/- ArithImmediates -/
import Derived.Test.YthnjppfgdkiaaabLeaf2
import Derived.Test.YthnjppfgdkiaaabMem
import Derived.Deep.RegionWith
namespace Go.Proofs.Ythnjppfgdkiaaab.arithImmediates
open Go.ChangeShapes Go.WideShapes Go.ChangeAt Go.RowKit

def froms (k : Nat) : Int := ([22, 23, 24, 25, 26, 27, 28, 29, 30, 31, 32, 33, 34] : List Int).getD k 0
def tos (k : Nat) : Int := ([35, 38, 39, 40, 43, 44, 37, 41, 42, 45, 47, 48, 49] : List Int).getD k 0
def immV (k : Nat) (x y : BitVec 64) : BitVec 64 := ([x + y, bSlt x y, bSltu x y, x ^^^ y, x ||| y, x &&& y, x <<< (n64 y % 64).toNat, x >>> (n64 y % 64).toNat, x.sshiftRight (n64 y % 64).toNat, wid (x + y), wid (x <<< (n64 y % 32 % 64).toNat), wid (low x >>> (n64 y % 32 % 64).toNat), wid ((wid x).sshiftRight (n64 y % 32 % 64).toNat)] : List (BitVec 64)).getD k 0#64
theorem op_from (k : Nat) (hk : k < 13) (x y : BitVec 64) (w : World) : Calls Try.prog 9 #[.int .i64 (froms k), .int .u64 (n64 x), .int .u64 (n64 y)] w fun e w' => e = .returned (.int .u64 (n64 (immV k x y))) ∧ Below w.heap.size w w' := by
  match k, hk with
  | 0, _ => exact o_addi x y w
  | 1, _ => exact o_slti x y w
  | 2, _ => exact o_sltui x y w
  | 3, _ => exact o_xori x y w
  | 4, _ => exact o_ori x y w
  | 5, _ => exact o_andi x y w
  | 6, _ => exact o_slli x y w
  | 7, _ => exact o_srli x y w
  | 8, _ => exact o_srai x y w
  | 9, _ => exact o_addwi x y w
  | 10, _ => exact o_sllwi x y w
  | 11, _ => exact o_srlwi x y w
  | 12, _ => exact o_srawi x y w
theorem op_to (k : Nat) (hk : k < 13) (x y : BitVec 64) (w : World) : Calls Try.prog 9 #[.int .i64 (tos k), .int .u64 (n64 x), .int .u64 (n64 y)] w fun e w' => e = .returned (.int .u64 (n64 (immV k x y))) ∧ Below w.heap.size w w' := by
  match k, hk with
  | 0, _ => exact o_add x y w
  | 1, _ => exact o_slt x y w
  | 2, _ => exact o_sltu x y w
  | 3, _ => exact o_xor x y w
  | 4, _ => exact o_or x y w
  | 5, _ => exact o_and x y w
  | 6, _ => exact o_sll x y w
  | 7, _ => exact o_srl x y w
  | 8, _ => exact o_sra x y w
  | 9, _ => exact o_addw x y w
  | 10, _ => exact o_sllw x y w
  | 11, _ => exact o_srlw x y w
  | 12, _ => exact o_sraw x y w

theorem walk (k : Int) (_ : (Lit.int .i64 k).wf = true) (a b : BitVec 64) (i : Int) (_ : (Lit.int .i64 i).wf = true) (j : Int) (_ : (Lit.int .i64 j).wf = true) (w : World) :
    Calls Try.prog 3 #[.agg #[.int .i64 k, .int .u64 (n64 a), .int .u64 (n64 b), .int .i64 i, .int .i64 j]] w fun e w' => e = .returned (.bool true) ∧ Below w.heap.size w w' := by
  obtain ⟨W, hW⟩ : ∃ W, W = (((w.alloc (.cells #[.int .i64 k, .int .u64 (n64 a), .int .u64 (n64 b), .int .i64 i, .int .i64 j] 24)).alloc (.cells #[.int .i64 22, .int .i64 23, .int .i64 24, .int .i64 25, .int .i64 26, .int .i64 27, .int .i64 28, .int .i64 29, .int .i64 30, .int .i64 31, .int .i64 32, .int .i64 33, .int .i64 34] 3)).alloc (.cells #[.int .i64 35, .int .i64 38, .int .i64 39, .int .i64 40, .int .i64 43, .int .i64 44, .int .i64 37, .int .i64 41, .int .i64 42, .int .i64 45, .int .i64 47, .int .i64 48, .int .i64 49] 3)) := ⟨_, rfl⟩
  have hsz : W.heap.size = w.heap.size + 3 := by rw [hW]; simp
  have hne := later_nonempty W
  have hc1 : ∀ x : Later W, x.1.cell? ⟨w.heap.size, 1, none⟩ = some (.int .u64 (n64 a)) := fun x => by
    rw [later_cell x (by show w.heap.size < _; omega), hW, alloc3_0]; rfl
  have hc2 : ∀ x : Later W, x.1.cell? ⟨w.heap.size, 2, none⟩ = some (.int .u64 (n64 b)) := fun x => by
    rw [later_cell x (by show w.heap.size < _; omega), hW, alloc3_0]; rfl
  have hf : ∀ (x : Later W) (k : Nat), k < 13 → x.1.cell? ⟨w.heap.size + 1, k, none⟩ = some (.int .i64 (froms k)) := fun x k hk => by
    rw [later_cell x (by show w.heap.size + 1 < _; omega), hW, alloc3_1]
    match k, hk with
    | 0, _ => rfl
    | 1, _ => rfl
    | 2, _ => rfl
    | 3, _ => rfl
    | 4, _ => rfl
    | 5, _ => rfl
    | 6, _ => rfl
    | 7, _ => rfl
    | 8, _ => rfl
    | 9, _ => rfl
    | 10, _ => rfl
    | 11, _ => rfl
    | 12, _ => rfl
  have ht : ∀ (x : Later W) (k : Nat), k < 13 → x.1.cell? ⟨w.heap.size + 1 + 1, k, none⟩ = some (.int .i64 (tos k)) := fun x k hk => by
    rw [later_cell x (by show w.heap.size + 1 + 1 < _; omega), hW, alloc3_2]
    match k, hk with
    | 0, _ => rfl
    | 1, _ => rfl
    | 2, _ => rfl
    | 3, _ => rfl
    | 4, _ => rfl
    | 5, _ => rfl
    | 6, _ => rfl
    | 7, _ => rfl
    | 8, _ => rfl
    | 9, _ => rfl
    | 10, _ => rfl
    | 11, _ => rfl
    | 12, _ => rfl
  have hbel : Below w.heap.size w W := by
    rw [hW]; exact (((Below.refl _ _).alloc (Nat.le_refl _) _).alloc (by simp) _).alloc (by simp; omega) _
  go_enter Try.func3, Try.ntmps3
  go_wp2_with fail
  rw [← hW]
  have HB : Hid (Below w.heap.size w W) := hbel
  clear hW hbel
  go_loopw [5] (fun i wr => ∃ k : Nat, k ≤ 13 ∧ i = .int .i64 k ∧ ∃ y : Later W, wr = y.1) (fun i _ => 13 - (intOf i).toNat)
  case atStart => exact ⟨0, Nat.zero_le _, rfl, Later.start W, rfl⟩
  case round =>
    obtain ⟨k, hk, rfl, y, rfl⟩ := hrel
    by_cases hlt : k < 13
    · have hl1 : (0 : Int) ≤ (k : Int) := by omega
      have hl2 : (k : Int) < 13 := by omega
      have hfk : ∀ x : Later W, x.1.cell? ⟨w.heap.size + 1, k, none⟩ = some (.int .i64 (froms k)) := fun x => hf x k hlt
      have htk : ∀ x : Later W, x.1.cell? ⟨w.heap.size + 1 + 1, k, none⟩ = some (.int .i64 (tos k)) := fun x => ht x k hlt
      clear hf ht
      go_wp2_with fail
      refine wp_region_later (by kernel_rfl) (by kernel_rfl) ?_
      repeat (go_big_quiet_step ((first
        | (go_at_call_of 9 (Value.int IntKind.i64 (froms k)); exact calls_later (op_from k hlt _ _ _))
        | (go_at_call_of 9 (Value.int IntKind.i64 (tos k)); exact calls_later (op_to k hlt _ _ _)))))
      refine wpQuiet_nil ?_
      rintro _ ⟨yq, rfl⟩
      go_wp2_with fail
      go_roundw
      case rel => exact ⟨k + 1, by omega, by go_num, yq, rfl⟩
      case measure => simp [intOf]; omega
    · have hl2 : (13 : Int) ≤ (k : Int) := by omega
      clear hf ht
      go_wp2_with fail
      refine (calls_later (live_any _)).mono ?_
      rintro e w' ⟨rfl, y2, rfl⟩
      go_wp2_with fail
      go_ret
      exact ⟨rfl, HB.out.trans (y2.2.mono HB.out.size)⟩

theorem own : ownKnob Try.prog.godebug = none := by kernel_rfl
theorem cells : Try.prog.cellsOf 24 = 5 := by kernel_rfl

set_option maxRecDepth 100000 in
theorem lifted (os : Os) (started : os.Started) (H : Type) (enc : TypeId × Value → H) :
    ReturnsInHanded {} Try.checked os 3 .any (Rows.arithImmediatesSpec.pre6 enc Try.prog Try.f3 Rows.arithImmediatesRow.domain false) (Rows.arithImmediatesSpec.post enc Try.prog Try.f3 false true false false) := by
  refine returnsInHanded_of_change (C := Try.checked) own started (by kernel_rfl) Try.func3
    (ChangeSpec.witness6 (enc := enc) (C := Try.checked) false ⟨#[], #[.agg #[.int .i64 0, .int .u64 0, .int .u64 0, .int .i64 0, .int .i64 0]], []⟩ 8 (by kernel_rfl) (by kernel_rfl) (by kernel_rfl) (by kernel_rfl)) ?_
  intro W base args ds gs before hval0 hW hcnd _
  have hval : ∀ (j : Nat) t v, Try.f3.params[j]? = some t → args[j]? = some v → Value.okWide Try.prog W .any base t v := hval0
  have hW' := hW
  obtain ⟨p, q, hA0, hV, rfl, hfz, hnd⟩ := hW
  have hA : DataW.TrodAll enc Try.prog W 0 (fun _ => true) true Try.f3.params.toList args.toList ds p := hA0
  rw [Try.params3] at hA hval
  obtain ⟨v0, vs0, d0, ds0, p0, q0, hargs, rfl, rfl, h0, r0⟩ := trodAll_cons hA
  obtain ⟨rfl, rfl, rfl⟩ := trodAll_nil r0
  obtain rfl : args = #[v0] := by cases args; simp_all
  obtain ⟨rfl, rfl⟩ := trodVars_none hV
  have k0 := h0
  obtain ⟨c0, c1, c2, c3, c4, y0, y1, y2, y3, y4, m, rfl, rfl, rfl, g0, g1, g2, g3, g4⟩ := open_agg5 Try.underlying24 (by kernel_rfl) cells (hval 0 24 v0 rfl rfl) h0
  obtain ⟨i0, e0, rfl, w0⟩ := DataW.trod_int Try.underlying3 g0
  obtain ⟨i1, e1, rfl, w1⟩ := DataW.trod_int Try.underlying22 g1
  obtain ⟨i2, e2, rfl, w2⟩ := DataW.trod_int Try.underlying22 g2
  obtain ⟨i3, e3, rfl, w3⟩ := DataW.trod_int Try.underlying3 g3
  obtain ⟨i4, e4, rfl, w4⟩ := DataW.trod_int Try.underlying3 g4
  simp only [List.cons.injEq, and_true] at e0 e1 e2 e3 e4
  subst e0 e1 e2 e3 e4
  obtain ⟨x1, rfl⟩ := n64_of w1
  obtain ⟨x2, rfl⟩ := n64_of w2
  clear hA0 hval0
  refine (walk i0 w0 x1 x2 i3 w3 i4 w4 W).mono fun e W' ⟨he, bel⟩ => ?_
  subst he
  exact ⟨_, rfl, _, _, _, [], _, [], hW', trodAll_mk1 (shut_bool Try.underlying4 _), trodAll_cons_mk (shut_agg5 (y0 := (.lit (.int .i64 i0), [])) (y1 := (.lit (.int .u64 (n64 x1)), [])) (y2 := (.lit (.int .u64 (n64 x2)), [])) (y3 := (.lit (.int .i64 i3), [])) (y4 := (.lit (.int .i64 i4), [])) Try.underlying24 (by kernel_rfl) cells (shut_int Try.underlying3 w0) (shut_int Try.underlying22 w1) (shut_int Try.underlying22 w2) (shut_int Try.underlying3 w3) (shut_int Try.underlying3 w4)) trodAll_mk0, rfl, bel.frame _, fun h => by cases h⟩

theorem over : Rows.arithImmediatesRow.holds Try.pinned (OpenSpec.ofChange Rows.arithImmediatesSpec) :=
  OpenClaim.holds_of_wide 3 Try.f3 rfl rfl rfl rfl rfl rfl rfl ⟨rfl, rfl, rfl, rfl, rfl⟩ rfl rfl rfl rfl rfl (by kernel_rfl) Try.func3 (by kernel_rfl)
    (of_decide_eq_true (by kernel_rfl)) (by unfold Func.isWrapper; first | (rw [if_pos (by decide +kernel)]; kernel_rfl) | (rw [if_neg (by decide +kernel)]; exact ⟨rfl, rfl⟩))
    (fun os started H enc _ => lifted os started H enc)
end Go.Proofs.Ythnjppfgdkiaaab.arithImmediates
namespace Go.Proofs.Ythnjppfgdkiaaab
theorem arithImmediates_holds : Rows.ArithImmediatesSaid := arithImmediates.over
end Go.Proofs.Ythnjppfgdkiaaab
#print axioms Go.Proofs.Ythnjppfgdkiaaab.arithImmediates_holds
