import Derived.Test.YtdpfjhacmlnklaaGreatDoorK01
import Derived.Laws.EntriesVeiled
import Derived.StillTailTactics
namespace Go.Proofs.YtdpfjhacmlnklaaGreatDoor
set_option linter.unusedVariables false
set_option maxRecDepth 100000
set_option maxHeartbeats 8000000
open Go.ChangeShapes Go.WideShapes Go.ChangeAt Go.RowKit _root_.Go.Proofs.Tryz
def uLt (x y : BitVec 64) : Bool := decide (n64 x < n64 y)
def sLt (x y : BitVec 64) : Bool := decide (x.toInt < y.toInt)
def dA : Array Value := #[.nilFunc, .bool false, .nilFunc, .bool false, .nilFunc, .bool false, .nilFunc, .bool false, .nilFunc, .bool false, .nilFunc, .bool false, .nilFunc, .bool false, .nilFunc, .bool false, .nilFunc, .bool false, .nilFunc, .bool false, .nilFunc, .bool false, .nilFunc, .bool false, .nilFunc, .bool false, .nilFunc, .bool false, .nilFunc, .bool false, .nilFunc, .bool false, .nilFunc, .bool false, .nilFunc, .bool false, .nilFunc, .bool false, .nilFunc, .bool false, .nilFunc, .bool false, .nilFunc, .bool false, .nilFunc, .bool false, .nilFunc, .bool false, .nilFunc, .bool false, .nilFunc, .bool false, .nilFunc, .bool false, .nilFunc, .bool false, .nilFunc, .bool false, .nilFunc, .bool false, .nilFunc, .bool false, .nilFunc, .bool false, .nilFunc, .bool false, .nilFunc, .bool false, .nilFunc, .bool false, .nilFunc, .bool false, .nilFunc, .bool false, .nilFunc, .bool false, .nilFunc, .bool false, .nilFunc, .bool false, .nilFunc, .bool false, .nilFunc, .bool false, .nilFunc, .bool false, .nilFunc, .bool false, .nilFunc, .bool false, .nilFunc, .bool false, .nilFunc, .bool false, .nilFunc, .bool false, .nilFunc, .bool false, .nilFunc, .bool false, .nilFunc, .bool false, .nilFunc, .bool false, .nilFunc, .bool false, .nilFunc, .bool false, .nilFunc, .bool false, .nilFunc, .bool false, .nilFunc, .bool false, .nilFunc, .bool false, .nilFunc, .bool false, .nilFunc, .bool false, .nilFunc, .bool false, .nilFunc, .bool false, .nilFunc, .bool false, .nilFunc, .bool false, .nilFunc, .bool false, .nilFunc, .bool false, .nilFunc, .bool false, .nilFunc, .bool false, .nilFunc, .bool false, .nilFunc, .bool false, .nilFunc, .bool false, .nilFunc, .bool false, .nilFunc, .bool false, .nilFunc, .bool false, .nilFunc, .bool false, .nilFunc, .bool false, .nilFunc, .bool false, fv 92, .bool true, fv 93, .bool true, fv 94, .bool true, fv 95, .bool true, fv 96, .bool true, fv 97, .bool true, fv 98, .bool true, fv 99, .bool true, fv 100, .bool true, .nilFunc, .bool false, .nilFunc, .bool false, fv 92, .bool false, fv 93, .bool false, fv 94, .bool false, fv 95, .bool false, fv 96, .bool false, fv 97, .bool false, fv 98, .bool false, fv 99, .bool false, fv 100, .bool false]
theorem lR : (prog.info? 160).map (·.size) = some dA.size := by kernel_rfl
theorem rE : Tryz.zeroCells160.size = dA.size := by kernel_rfl
theorem vG : dA.all (·.oneCell') = true := by kernel_rfl
theorem lS (w : World) : Calls prog 77 #[] w fun e w' => e = .returned (.agg dA) ∧ w' = w.alloc (.cells dA 160) := by
 go_enter func77, ntmps77
 go_wp2_with (first
  | (refine aH (by rfl) 160 _ (by rfl) dA (by kernel_rfl) ?_)
  | (refine aK (by rfl) 160 _ _ (by rfl) (by rfl) Tryz.zeroCells160 dA (by rfl) (by rfl) lR rE vG ?_))
 exact bodyPost_ret (v := .agg dA) (results_cell_row results77 _ _ w.heap.size 160 dA (0, 0) _ (by rfl) (heap_alloc_last w _) underlying160 (by rfl) lR) rfl ⟨rfl, rfl⟩
theorem iQ (f : Nat) (w : World) : (binOp .eql 157 (.func (.func f) #[] #[]) .nilFunc).run prog w = .ok (.bool false) w := by kernel_rfl

theorem cY (k : Int) (f : Nat) (a b r : Int) (w : World) (h0 : 0 ≤ k) (h1 : k < 97)
  (hidx : ∀ w, (Instr.index 160 (.agg dA) (.int .i64 k)).run prog w = .ok (.agg #[.func (.func f) #[] #[], .bool false]) w)
  (hcf : ∀ w, (callFunc f #[.int .u64 a, .int .u64 b]).run prog w = .ok (.enter f #[.int .u64 a, .int .u64 b]) w)
  (hf : ∀ w, Calls prog f #[.int .u64 a, .int .u64 b] w fun e w' => e = .returned (.int .u64 r) ∧ w' = w) :
  Calls prog 56 #[.int .i64 k, .int .u64 a, .int .u64 b] w fun e w' => e = .returned (.tuple #[.int .u64 r, .bool true]) ∧ Below w.heap.size w w' := by
 have hnil := iQ f
 go_enter func56, ntmps56
 go_wp2_with fail
 refine (lS _).mono ?_
 rintro e w' ⟨rfl, rfl⟩
 go_wp2_with fail
 refine (hf _).mono ?_
 rintro e w' ⟨rfl, rfl⟩
 go_wp2_with fail
 go_ret2
 exact ⟨rfl, ((Below.refl _ _).alloc (Nat.le_refl _) _).alloc (by simp) _⟩

theorem cZ (k : Int) (f : Nat) (x y r : BitVec 64) (w : World) (h0 : 0 ≤ k) (h1 : k < 97)
  (hidx : ∀ w, (Instr.index 160 (.agg dA) (.int .i64 k)).run prog w = .ok (.agg #[.func (.func f) #[] #[], .bool true]) w)
  (hcf : ∀ w, (callFunc f #[.int .u64 (n64 (wid x)), .int .u64 (n64 (wid y))]).run prog w = .ok (.enter f #[.int .u64 (n64 (wid x)), .int .u64 (n64 (wid y))]) w)
  (hf : ∀ w, Calls prog f #[.int .u64 (n64 (wid x)), .int .u64 (n64 (wid y))] w fun e w' => e = .returned (.int .u64 (n64 r)) ∧ w' = w) :
  Calls prog 56 #[.int .i64 k, .int .u64 (n64 x), .int .u64 (n64 y)] w fun e w' => e = .returned (.tuple #[.int .u64 (n64 (wid r)), .bool true]) ∧ Below w.heap.size w w' := by
 have hnil := iQ f
 go_enter func56, ntmps56
 go_wp2_with fail
 refine (lS _).mono ?_
 rintro e w' ⟨rfl, rfl⟩
 go_wp2_with fail
 go_quiet ((first
  | (go_at_call 78; exact Calls.quiet_of_same (qX _ _))
  | exact Calls.quiet_of_same (hf _)))
 go_wp2
 go_ret2
 exact ⟨rfl, below_drewN (((Below.refl _ _).alloc (Nat.le_refl _) _).alloc (by simp) _) _⟩

theorem mV (x y : BitVec 64) (w : World) : Calls prog 92 #[.int .u64 (n64 x), .int .u64 (n64 y)] w fun e w' => e = .returned (.int .u64 (n64 y)) ∧ w' = w := by
 go_enter func92, ntmps92
 go_wp2
 go_ret
 exact ⟨rfl, rfl⟩
def qN (x y : BitVec 64) : BitVec 64 := if sLt y x then y else x
def qM (x y : BitVec 64) : BitVec 64 := if sLt x y then y else x
def qV (x y : BitVec 64) : BitVec 64 := if uLt y x then y else x
def qU (x y : BitVec 64) : BitVec 64 := if uLt x y then y else x
theorem jD (x y : BitVec 64) (w : World) : Calls prog 97 #[.int .u64 (n64 x), .int .u64 (n64 y)] w fun e w' => e = .returned (.int .u64 (n64 (qN x y))) ∧ w' = w := by
 unfold qN
 have he : sLt y x = decide (wrap64 (n64 y) < wrap64 (n64 x)) := by unfold sLt; rw [cJ, cJ]
 rw [he]
 clear he
 by_cases h : wrap64 (n64 y) < wrap64 (n64 x)
 ·simp only [h, decide_true, if_true]
  go_enter func97, ntmps97
  go_wp2
  go_ret
  exact ⟨dG (by rw [cJ]; exact fN _), rfl⟩
 ·simp only [h, decide_false, Bool.false_eq_true, if_false]
  go_enter func97, ntmps97
  go_wp2
  go_ret
  exact ⟨dG (by rw [cJ]; exact fN _), rfl⟩
theorem hD (x y : BitVec 64) (w : World) : Calls prog 98 #[.int .u64 (n64 x), .int .u64 (n64 y)] w fun e w' => e = .returned (.int .u64 (n64 (qM x y))) ∧ w' = w := by
 unfold qM
 have he : sLt x y = decide (wrap64 (n64 x) < wrap64 (n64 y)) := by unfold sLt; rw [cJ, cJ]
 rw [he]
 clear he
 by_cases h : wrap64 (n64 x) < wrap64 (n64 y)
 ·simp only [h, decide_true, if_true]
  go_enter func98, ntmps98
  go_wp2
  go_ret
  exact ⟨dG (by rw [cJ]; exact fN _), rfl⟩
 ·simp only [h, decide_false, Bool.false_eq_true, if_false]
  go_enter func98, ntmps98
  go_wp2
  go_ret
  exact ⟨dG (by rw [cJ]; exact fN _), rfl⟩
theorem eW (x y : BitVec 64) (w : World) : Calls prog 99 #[.int .u64 (n64 x), .int .u64 (n64 y)] w fun e w' => e = .returned (.int .u64 (n64 (qV x y))) ∧ w' = w := by
 unfold qV
 have he : uLt y x = decide (n64 y < n64 x) := rfl
 rw [he]
 clear he
 by_cases h : n64 y < n64 x
 ·simp only [h, decide_true, if_true]
  go_enter func99, ntmps99
  go_wp2
  go_ret
  exact ⟨rfl, rfl⟩
 ·simp only [h, decide_false, Bool.false_eq_true, if_false]
  go_enter func99, ntmps99
  go_wp2
  go_ret
  exact ⟨rfl, rfl⟩
theorem eD (x y : BitVec 64) (w : World) : Calls prog 100 #[.int .u64 (n64 x), .int .u64 (n64 y)] w fun e w' => e = .returned (.int .u64 (n64 (qU x y))) ∧ w' = w := by
 unfold qU
 have he : uLt x y = decide (n64 x < n64 y) := rfl
 rw [he]
 clear he
 by_cases h : n64 x < n64 y
 ·simp only [h, decide_true, if_true]
  go_enter func100, ntmps100
  go_wp2
  go_ret
  exact ⟨rfl, rfl⟩
 ·simp only [h, decide_false, Bool.false_eq_true, if_false]
  go_enter func100, ntmps100
  go_wp2
  go_ret
  exact ⟨rfl, rfl⟩
theorem wD (x y : BitVec 64) (w : World) : Calls prog 56 #[.int .i64 77, .int .u64 (n64 x), .int .u64 (n64 y)] w fun e w' => e = .returned (.tuple #[.int .u64 (n64 (wid (wid y))), .bool true]) ∧ Below w.heap.size w w' :=
 cZ 77 92 x y _ w (by decide) (by decide) (fun _ => by kernel_rfl) (fun _ => by kernel_rfl) (fun w => mV (wid x) (wid y) w)
theorem wC (x y : BitVec 64) (w : World) : Calls prog 56 #[.int .i64 88, .int .u64 (n64 x), .int .u64 (n64 y)] w fun e w' => e = .returned (.tuple #[.int .u64 (n64 (y)), .bool true]) ∧ Below w.heap.size w w' :=
 cY 88 92 _ _ _ w (by decide) (by decide) (fun _ => by kernel_rfl) (fun _ => by kernel_rfl) (fun w => mV x y w)
theorem BM (x y : BitVec 64) (w : World) : Calls prog 56 #[.int .i64 78, .int .u64 (n64 x), .int .u64 (n64 y)] w fun e w' => e = .returned (.tuple #[.int .u64 (n64 (wid (wid x + wid y))), .bool true]) ∧ Below w.heap.size w w' :=
 cZ 78 93 x y _ w (by decide) (by decide) (fun _ => by kernel_rfl) (fun _ => by kernel_rfl) (fun w => oF (wid x) (wid y) w)
theorem BL (x y : BitVec 64) (w : World) : Calls prog 56 #[.int .i64 89, .int .u64 (n64 x), .int .u64 (n64 y)] w fun e w' => e = .returned (.tuple #[.int .u64 (n64 (x + y)), .bool true]) ∧ Below w.heap.size w w' :=
 cY 89 93 _ _ _ w (by decide) (by decide) (fun _ => by kernel_rfl) (fun _ => by kernel_rfl) (fun w => oF x y w)
theorem BQ (x y : BitVec 64) (w : World) : Calls prog 56 #[.int .i64 79, .int .u64 (n64 x), .int .u64 (n64 y)] w fun e w' => e = .returned (.tuple #[.int .u64 (n64 (wid (wid x ^^^ wid y))), .bool true]) ∧ Below w.heap.size w w' :=
 cZ 79 94 x y _ w (by decide) (by decide) (fun _ => by kernel_rfl) (fun _ => by kernel_rfl) (fun w => pD (wid x) (wid y) w)
theorem BP (x y : BitVec 64) (w : World) : Calls prog 56 #[.int .i64 90, .int .u64 (n64 x), .int .u64 (n64 y)] w fun e w' => e = .returned (.tuple #[.int .u64 (n64 (x ^^^ y)), .bool true]) ∧ Below w.heap.size w w' :=
 cY 90 94 _ _ _ w (by decide) (by decide) (fun _ => by kernel_rfl) (fun _ => by kernel_rfl) (fun w => pD x y w)
theorem BO (x y : BitVec 64) (w : World) : Calls prog 56 #[.int .i64 80, .int .u64 (n64 x), .int .u64 (n64 y)] w fun e w' => e = .returned (.tuple #[.int .u64 (n64 (wid (wid x &&& wid y))), .bool true]) ∧ Below w.heap.size w w' :=
 cZ 80 95 x y _ w (by decide) (by decide) (fun _ => by kernel_rfl) (fun _ => by kernel_rfl) (fun w => oH (wid x) (wid y) w)
theorem BN (x y : BitVec 64) (w : World) : Calls prog 56 #[.int .i64 91, .int .u64 (n64 x), .int .u64 (n64 y)] w fun e w' => e = .returned (.tuple #[.int .u64 (n64 (x &&& y)), .bool true]) ∧ Below w.heap.size w w' :=
 cY 91 95 _ _ _ w (by decide) (by decide) (fun _ => by kernel_rfl) (fun _ => by kernel_rfl) (fun w => oH x y w)
theorem ED (x y : BitVec 64) (w : World) : Calls prog 56 #[.int .i64 81, .int .u64 (n64 x), .int .u64 (n64 y)] w fun e w' => e = .returned (.tuple #[.int .u64 (n64 (wid (wid x ||| wid y))), .bool true]) ∧ Below w.heap.size w w' :=
 cZ 81 96 x y _ w (by decide) (by decide) (fun _ => by kernel_rfl) (fun _ => by kernel_rfl) (fun w => tT (wid x) (wid y) w)
theorem EC (x y : BitVec 64) (w : World) : Calls prog 56 #[.int .i64 92, .int .u64 (n64 x), .int .u64 (n64 y)] w fun e w' => e = .returned (.tuple #[.int .u64 (n64 (x ||| y)), .bool true]) ∧ Below w.heap.size w w' :=
 cY 92 96 _ _ _ w (by decide) (by decide) (fun _ => by kernel_rfl) (fun _ => by kernel_rfl) (fun w => tT x y w)
theorem qG (x y : BitVec 64) (w : World) : Calls prog 56 #[.int .i64 82, .int .u64 (n64 x), .int .u64 (n64 y)] w fun e w' => e = .returned (.tuple #[.int .u64 (n64 (wid (qN (wid x) (wid y)))), .bool true]) ∧ Below w.heap.size w w' :=
 cZ 82 97 x y _ w (by decide) (by decide) (fun _ => by kernel_rfl) (fun _ => by kernel_rfl) (fun w => jD (wid x) (wid y) w)
theorem qF (x y : BitVec 64) (w : World) : Calls prog 56 #[.int .i64 93, .int .u64 (n64 x), .int .u64 (n64 y)] w fun e w' => e = .returned (.tuple #[.int .u64 (n64 (qN x y)), .bool true]) ∧ Below w.heap.size w w' :=
 cY 93 97 _ _ _ w (by decide) (by decide) (fun _ => by kernel_rfl) (fun _ => by kernel_rfl) (fun w => jD x y w)
theorem nL (x y : BitVec 64) (w : World) : Calls prog 56 #[.int .i64 83, .int .u64 (n64 x), .int .u64 (n64 y)] w fun e w' => e = .returned (.tuple #[.int .u64 (n64 (wid (qM (wid x) (wid y)))), .bool true]) ∧ Below w.heap.size w w' :=
 cZ 83 98 x y _ w (by decide) (by decide) (fun _ => by kernel_rfl) (fun _ => by kernel_rfl) (fun w => hD (wid x) (wid y) w)
theorem nK (x y : BitVec 64) (w : World) : Calls prog 56 #[.int .i64 94, .int .u64 (n64 x), .int .u64 (n64 y)] w fun e w' => e = .returned (.tuple #[.int .u64 (n64 (qM x y)), .bool true]) ∧ Below w.heap.size w w' :=
 cY 94 98 _ _ _ w (by decide) (by decide) (fun _ => by kernel_rfl) (fun _ => by kernel_rfl) (fun w => hD x y w)
theorem jG (x y : BitVec 64) (w : World) : Calls prog 56 #[.int .i64 84, .int .u64 (n64 x), .int .u64 (n64 y)] w fun e w' => e = .returned (.tuple #[.int .u64 (n64 (wid (qV (wid x) (wid y)))), .bool true]) ∧ Below w.heap.size w w' :=
 cZ 84 99 x y _ w (by decide) (by decide) (fun _ => by kernel_rfl) (fun _ => by kernel_rfl) (fun w => eW (wid x) (wid y) w)
theorem jF (x y : BitVec 64) (w : World) : Calls prog 56 #[.int .i64 95, .int .u64 (n64 x), .int .u64 (n64 y)] w fun e w' => e = .returned (.tuple #[.int .u64 (n64 (qV x y)), .bool true]) ∧ Below w.heap.size w w' :=
 cY 95 99 _ _ _ w (by decide) (by decide) (fun _ => by kernel_rfl) (fun _ => by kernel_rfl) (fun w => eW x y w)
theorem iB (x y : BitVec 64) (w : World) : Calls prog 56 #[.int .i64 85, .int .u64 (n64 x), .int .u64 (n64 y)] w fun e w' => e = .returned (.tuple #[.int .u64 (n64 (wid (qU (wid x) (wid y)))), .bool true]) ∧ Below w.heap.size w w' :=
 cZ 85 100 x y _ w (by decide) (by decide) (fun _ => by kernel_rfl) (fun _ => by kernel_rfl) (fun w => eD (wid x) (wid y) w)
theorem iA (x y : BitVec 64) (w : World) : Calls prog 56 #[.int .i64 96, .int .u64 (n64 x), .int .u64 (n64 y)] w fun e w' => e = .returned (.tuple #[.int .u64 (n64 (qU x y)), .bool true]) ∧ Below w.heap.size w w' :=
 cY 96 100 _ _ _ w (by decide) (by decide) (fun _ => by kernel_rfl) (fun _ => by kernel_rfl) (fun w => eD x y w)
theorem jw64 (R : Nat) : jv (wdn R 64) 64 = BitVec.ofNat 64 R := by
 apply BitVec.eq_of_toNat_eq
 rw [sP _ _ (by decide), BitVec.toNat_ofNat]
 unfold wdn; simp
theorem xN (x : BitVec 64) : qP 64 (x.toNat % 2 ^ 64) = x.toInt := by
 rw [Nat.mod_eq_of_lt x.isLt]
 unfold qP; rw [BitVec.toInt_eq_toNat_cond]; have := x.isLt; simp only [Nat.reduceSub, Nat.reducePow] at *; split <;> split <;> omega
theorem dD (x : BitVec 64) : BitVec.ofNat 64 (x.toNat % 2 ^ 64) = x := by
 apply BitVec.eq_of_toNat_eq; rw [BitVec.toNat_ofNat, Nat.mod_mod, Nat.mod_eq_of_lt x.isLt]
theorem pA (c : Bool) (x y : BitVec 64) : BitVec.ofNat 64 (tX c (x.toNat % 2 ^ 64) (y.toNat % 2 ^ 64)) = if c then y else x := by
 cases c
 ·exact dD x
 ·exact dD y
def mW (i : Nat) (x y : BitVec 64) : BitVec 64 := ([wid (wid y), wid (wid x + wid y), wid (wid x ^^^ wid y), wid (wid x &&& wid y), wid (wid x ||| wid y), wid (qN (wid x) (wid y)), wid (qM (wid x) (wid y)), wid (qV (wid x) (wid y)), wid (qU (wid x) (wid y))] : List (BitVec 64)).getD i 0#64
def mD (i : Nat) (x y : BitVec 64) : BitVec 64 := ([y, x + y, x ^^^ y, x &&& y, x ||| y, qN x y, qM x y, qV x y, qU x y] : List (BitVec 64)).getD i 0#64
theorem ofx (n A B : Nat) : BitVec.ofNat n (A ^^^ B) = BitVec.ofNat n A ^^^ BitVec.ofNat n B := by
 apply BitVec.eq_of_toNat_eq; rw [BitVec.toNat_xor, BitVec.toNat_ofNat, BitVec.toNat_ofNat, BitVec.toNat_ofNat, Nat.xor_mod_two_pow]
theorem ofa (n A B : Nat) : BitVec.ofNat n (A &&& B) = BitVec.ofNat n A &&& BitVec.ofNat n B := by
 apply BitVec.eq_of_toNat_eq; rw [BitVec.toNat_and, BitVec.toNat_ofNat, BitVec.toNat_ofNat, BitVec.toNat_ofNat, Nat.and_mod_two_pow]
theorem ofo (n A B : Nat) : BitVec.ofNat n (A ||| B) = BitVec.ofNat n A ||| BitVec.ofNat n B := by
 apply BitVec.eq_of_toNat_eq; rw [BitVec.toNat_or, BitVec.toNat_ofNat, BitVec.toNat_ofNat, BitVec.toNat_ofNat, Nat.or_mod_two_pow]
theorem ltu (x y : BitVec 64) : decide (x.toNat < y.toNat) = uLt x y := by unfold uLt n64; rw [Bool.eq_iff_iff]; simp only [decide_eq_true_eq]; omega
theorem mD_ref (i : Nat) (hi : i < 9) (x y : BitVec 64) : jv (wdn (aR i 64 (x.toNat % 2 ^ 64) (y.toNat % 2 ^ 64)) 64) 64 = mD i x y := by
 rw [jw64]
 match i, hi with
 | 0, _ => exact dD y
 | 1, _ => show BitVec.ofNat 64 (x.toNat % 2 ^ 64 + y.toNat % 2 ^ 64 + 0) = x + y; rw [Nat.add_zero, BitVec.ofNat_add, dD, dD]
 | 2, _ => show BitVec.ofNat 64 (x.toNat % 2 ^ 64 ^^^ y.toNat % 2 ^ 64) = x ^^^ y; rw [ofx, dD, dD]
 | 3, _ => show BitVec.ofNat 64 (x.toNat % 2 ^ 64 &&& y.toNat % 2 ^ 64) = x &&& y; rw [ofa, dD, dD]
 | 4, _ => show BitVec.ofNat 64 (x.toNat % 2 ^ 64 ||| y.toNat % 2 ^ 64) = x ||| y; rw [ofo, dD, dD]
 | 5, _ => refine (pA _ x y).trans ?_; rw [xN, xN]; rfl
 | 6, _ => refine (pA _ x y).trans ?_; rw [xN, xN]; rfl
 | 7, _ => refine (pA _ x y).trans ?_; rw [Nat.mod_eq_of_lt x.isLt, Nat.mod_eq_of_lt y.isLt, ltu]; rfl
 | 8, _ => refine (pA _ x y).trans ?_; rw [Nat.mod_eq_of_lt x.isLt, Nat.mod_eq_of_lt y.isLt, ltu]; rfl
theorem rG (i : Nat) (hi : i < 9) (x y : BitVec 64) (w : World) : Calls prog 56 #[.int .i64 (77 + (i : Int)), .int .u64 (n64 x), .int .u64 (n64 y)] w fun e w' => e = .returned (.tuple #[.int .u64 (n64 (mW i x y)), .bool true]) ∧ Below w.heap.size w w' := by
 match i, hi with
 | 0, _ => exact wD x y w
 | 1, _ => exact BM x y w
 | 2, _ => exact BQ x y w
 | 3, _ => exact BO x y w
 | 4, _ => exact ED x y w
 | 5, _ => exact qG x y w
 | 6, _ => exact nL x y w
 | 7, _ => exact jG x y w
 | 8, _ => exact iB x y w
theorem rF (i : Nat) (hi : i < 9) (x y : BitVec 64) (w : World) : Calls prog 56 #[.int .i64 (88 + (i : Int)), .int .u64 (n64 x), .int .u64 (n64 y)] w fun e w' => e = .returned (.tuple #[.int .u64 (n64 (mD i x y)), .bool true]) ∧ Below w.heap.size w w' := by
 match i, hi with
 | 0, _ => exact wC x y w
 | 1, _ => exact BL x y w
 | 2, _ => exact BP x y w
 | 3, _ => exact BN x y w
 | 4, _ => exact EC x y w
 | 5, _ => exact qF x y w
 | 6, _ => exact nK x y w
 | 7, _ => exact jF x y w
 | 8, _ => exact iA x y w
end Go.Proofs.YtdpfjhacmlnklaaGreatDoor
namespace Go.Proofs.YtdpfjhacmlnklaaGreatDoor
set_option linter.unusedVariables false
set_option maxRecDepth 100000
set_option maxHeartbeats 8000000
open Go.ChangeShapes Go.WideShapes Go.ChangeAt Go.RowKit Go.Deep _root_.Go.Proofs.Tryz
section
variable {P : Program} {ops : Array Oper} {md : Region.Mode} {C : World → Prop}
def jV (P : Program) (md : Region.Mode) (ops : Array Oper) (C : World → Prop) (n : Nat) (L : Array Bool → Act → Prop) : Nat → Array Bool → Act → Prop
 | 0, listed, a => L listed a
 | f + 1, listed, a => Region.ready md ops listed ≠ [] ∧ ∀ i ∈ Region.ready md ops listed, i < n ∧ qOp P ops C i (jV P md ops C n L f (listed.setIfInBounds i true)) a
theorem jX {n g : Nat} {L : Array Bool → Act → Prop} {Q' : Exit → Act → World → Prop} (hL : ∀ listed a w, C w → L listed a → wpAny P md ops Q' g listed a w) :
  ∀ (f : Nat) (listed : Array Bool) (a : Act) (w : World), C w → jV P md ops C n L f listed a → wpAny P md ops Q' (f + g) listed a w
 | 0, listed, a, w, hw, h => by rw [Nat.zero_add]; exact hL _ _ _ hw h
 | f + 1, listed, a, w, hw, h => by
  rw [Nat.add_right_comm f 1 g]
  exact ⟨fun h0 => absurd h0 h.1, fun i hi => wpOp_of_qOp hw (fun a' w' hw' h' => jX hL f _ a' w' hw' h') (h.2 i hi).2⟩
theorem fL {n i : Nat} {listed : Array Bool} (hs : Region.sinkB md ops n = true) (hc : Region.chainB md ops n = true) (hn : n < ops.size) (inv : HeadInv md ops n listed) (hin : i < n) (hr : i ∈ Region.ready md ops listed) :
  ∀ j ∈ Region.ready md ops listed, j < n := fun j hj => by
 rcases Nat.lt_or_ge j n with h | h
 ·exact h
 ·exact absurd hj (tail_waits hs hc hn inv _ i rfl hin (mem_ready.1 hr).1 j h)
theorem lM {n i : Nat} {oi : Oper} {v : Value} {L : Array Bool → Act → Prop} (hi : ops[i]? = some oi) (hsel : ∀ (j : Nat) (o : Oper) cs b, ops[j]? = some o → o.op ≠ .select cs b)
  (hs : Region.sinkB md ops n = true) (hc : Region.chainB md ops n = true) (hn : n < ops.size) (hin : i < n) (hdone : ∀ listed a, L listed a → ∀ j ∈ Region.ready md ops listed, n ≤ j) :
  ∀ (f : Nat) (listed : Array Bool) (a : Act), HeadInv md ops n listed →
   (∀ j oj, ops[j]? = some oj → j ≠ i → listed.getD j true = false → (∀ e ∈ oj.after, Region.binds md e = true → e.on ≠ i) → oi.apart ops oj = true) →
   i ∈ Region.ready md ops listed → YieldsIn P ops C oi v a →
   jV P md ops C n L f (listed.setIfInBounds i true) (a.put oi.dst v) → jV P md ops C n L (f + 1) listed a := by
 intro f
 induction f with
 | zero =>
  intro listed a inv _ hr hy H
  refine ⟨List.ne_nil_of_mem hr, fun j hj => ⟨fL hs hc hn inv hin hr j hj, ?_⟩⟩
  by_cases e : j = i
  ·subst e; exact hy.qOp hi H
  ·have h1 := hdone _ _ H j (ready_mono hj e)
   have h2 := fL hs hc hn inv hin hr j hj
   omega
 | succ f ih =>
  intro listed a inv hfree hr hy H
  refine ⟨List.ne_nil_of_mem hr, fun j hj => ⟨fL hs hc hn inv hin hr j hj, ?_⟩⟩
  by_cases e : j = i
  ·subst e; exact hy.qOp hi H
  ·obtain ⟨hun, oj, hoj, hall⟩ := mem_ready.1 hj
   have hap : oi.apart ops oj = true := hfree j oj hoj e hun fun q hq hb heq => by
    have h1 := hall q hq hb
    rw [heq, getD_both (mem_ready.1 hr).1] at h1
    cases h1
   refine qOp_mono (fun a' h3 => ih (listed.setIfInBounds j true) a' (inv.set hj (fL hs hc hn inv hin hr j hj)) (fun k ok hk hki hunk hno => ?_) (ready_mono hr (Ne.symm e)) h3.1 ?_)
    (qOp_put hoj hap (fun cs b => hsel i oi cs b hi) (fun cs b => hsel j oj cs b hoj) hy (H.2 j (ready_mono hj e)).2)
   ·refine hfree k ok hk hki ?_ hno
    by_cases e2 : j = k
    ·subst e2; exact hun
    ·rwa [getD_set_ne true e2] at hunk
   ·rw [Array.setIfInBounds_comm _ _ e]; exact h3.2
theorem jW {n g : Nat} {Lq : Act → Prop} (hsel : Region.noSelect ops = true) (hs : Region.sinkB md ops n = true) (hc : Region.chainB md ops n = true) (hn : n < ops.size) :
  ∀ (l : List Oper) (k : Nat) (listed : Array Bool) (a : Act), (∀ j, j < l.length → l[j]? = ops[k + j]?) → k + l.length = n → HeadInv md ops n listed →
  Region.lexHead md ops g l.length k listed = true → wpQuiet P ops C Lq l a → jV P md ops C n (fun listed' a' => Region.seqB md ops g n listed' = true ∧ Lq a') l.length listed a
 | [], k, listed, a, _, hk, _, hB, h => by
  obtain rfl : k = n := by simpa using hk
  exact ⟨by simpa [Region.lexHead] using hB, h⟩
 | o :: l, k, listed, a, hl, hk, inv, hB, h => by
  simp only [List.length_cons] at hk
  have h0 : ops[k]? = some o := by simpa using (hl 0 (by simp)).symm
  simp only [List.length_cons, Region.lexHead, Bool.and_eq_true] at hB
  have hr : k ∈ Region.ready md ops listed := by simpa using hB.1.1
  obtain ⟨v, hy, hK⟩ := yieldsIn_of_qOp (K := wpQuiet P ops C Lq l) h0 (by unfold qOp; simp only [h0]; exact h)
  refine lM h0 (Region.noSelect_spec hsel) hs hc hn (by omega) (fun listed' a' hL => seqB_ready hL.1) l.length listed a inv (Region.free_spec h0 hB.1.2) hr hy ?_
  refine jW hsel hs hc hn l (k + 1) _ _ (fun j hj => ?_) (by omega) (inv.set hr (by omega)) hB.2 hK
  have := hl (j + 1) (by simp; omega)
  simpa [Nat.add_assoc, Nat.add_comm 1 j] using this
theorem fI {id : Nat} {Q : Exit → Act → World → Prop} {a : Act} {w : World} {l : List Oper} (n : Nat) (hm : P.follows .mixedOrders = true) (hB : Region.lexTailB .any l.toArray n = true) (hC : C { w with drawn := w.drawn + 1 })
  (h : wpQuiet P l.toArray C (fun a' => ∀ w', C w' → wpList P l.toArray Q (l.drop n) a' w') (l.take n) a) : (Code.region id l.toArray true).wp P Q a w := by
 simp only [Region.lexTailB, Bool.and_eq_true, decide_eq_true_eq] at hB
 obtain ⟨⟨⟨⟨hsel, hn⟩, hs⟩, hc⟩, hlex⟩ := hB
 have hn' : n < l.length := by simpa using hn
 have ht : (l.take n).length = n := by simp; omega
 have hd : (l.drop n).length = l.toArray.size - n := by simp
 have H := jW (md := .any) (g := l.toArray.size - n) hsel hs hc hn (l.take n) 0 (Array.replicate l.toArray.size false) a (fun j hj => by
  rw [ht] at hj
  simp [hj]) (by simpa using ht) ⟨by simp, fun j oj _ hl => (by rw [getD_replicate_false] at hl; cases hl), fun t _ ht' => getD_in (by simpa using ht') (getD_replicate_false _ _)⟩ (by rw [ht]; exact hlex) h
 have G := jX (Q' := Q) (g := l.toArray.size - n) (fun listed a' w' hw' hL => by
  have := wpAny_of_seq (md := .any) (Q' := Q) (l.drop n) n listed a' w' (fun j => by simp [List.getElem?_drop]) (by rw [hd]; exact hL.1) (hL.2 w' hw')
  rwa [hd] at this) _ _ _ _ hC H
 rw [ht, show n + (l.toArray.size - n) = l.toArray.size by omega] at G
 exact wp_region_any hm G
end
theorem aQ {P : Program} {id : Nat} {Q : Exit → Act → World → Prop} {a : Act} {W : World} {x0 : bR W} {l : List Oper} (n : Nat) (hm : P.follows .mixedOrders = true) (hB : Region.lexTailB .any l.toArray n = true)
  (h : wpQuiet P l.toArray (fun w' => ∃ x : bR W, w' = x.1) (fun a' => ∀ w', (∃ x : bR W, w' = x.1) → wpList P l.toArray Q (l.drop n) a' w') (l.take n) a) : (Code.region id l.toArray true).wp P Q a x0.1 :=
 fI (C := fun w' => ∃ x : bR W, w' = x.1) n hm hB ⟨⟨_, x0.2.drew⟩, rfl⟩ h
end Go.Proofs.YtdpfjhacmlnklaaGreatDoor
