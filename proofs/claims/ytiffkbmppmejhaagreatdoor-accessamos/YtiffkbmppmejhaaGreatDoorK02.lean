import Derived.Test.YtiffkbmppmejhaaGreatDoorK01
import Derived.Laws.EntriesVeiled
namespace Go.Proofs.YtiffkbmppmejhaaGreatDoor
set_option linter.unusedVariables false
set_option maxRecDepth 100000
set_option maxHeartbeats 8000000
open Go.ChangeShapes Go.WideShapes Go.ChangeAt Go.RowKit _root_.Go.Proofs.Tryz
def uLt (x y : BitVec 64) : Bool := decide (n64 x < n64 y)
def sLt (x y : BitVec 64) : Bool := decide (x.toInt < y.toInt)
def eM : Array Value := #[.nilFunc, .bool false, .nilFunc, .bool false, .nilFunc, .bool false, .nilFunc, .bool false, .nilFunc, .bool false, .nilFunc, .bool false, .nilFunc, .bool false, .nilFunc, .bool false, .nilFunc, .bool false, .nilFunc, .bool false, .nilFunc, .bool false, .nilFunc, .bool false, .nilFunc, .bool false, .nilFunc, .bool false, .nilFunc, .bool false, .nilFunc, .bool false, .nilFunc, .bool false, .nilFunc, .bool false, .nilFunc, .bool false, .nilFunc, .bool false, .nilFunc, .bool false, .nilFunc, .bool false, .nilFunc, .bool false, .nilFunc, .bool false, .nilFunc, .bool false, .nilFunc, .bool false, .nilFunc, .bool false, .nilFunc, .bool false, .nilFunc, .bool false, .nilFunc, .bool false, .nilFunc, .bool false, .nilFunc, .bool false, .nilFunc, .bool false, .nilFunc, .bool false, .nilFunc, .bool false, .nilFunc, .bool false, .nilFunc, .bool false, .nilFunc, .bool false, .nilFunc, .bool false, .nilFunc, .bool false, .nilFunc, .bool false, .nilFunc, .bool false, .nilFunc, .bool false, .nilFunc, .bool false, .nilFunc, .bool false, .nilFunc, .bool false, .nilFunc, .bool false, .nilFunc, .bool false, .nilFunc, .bool false, .nilFunc, .bool false, .nilFunc, .bool false, .nilFunc, .bool false, .nilFunc, .bool false, .nilFunc, .bool false, .nilFunc, .bool false, .nilFunc, .bool false, .nilFunc, .bool false, .nilFunc, .bool false, .nilFunc, .bool false, .nilFunc, .bool false, .nilFunc, .bool false, .nilFunc, .bool false, .nilFunc, .bool false, .nilFunc, .bool false, .nilFunc, .bool false, .nilFunc, .bool false, .nilFunc, .bool false, .nilFunc, .bool false, .nilFunc, .bool false, .nilFunc, .bool false, .nilFunc, .bool false, .nilFunc, .bool false, .nilFunc, .bool false, .nilFunc, .bool false, .nilFunc, .bool false, .nilFunc, .bool false, .nilFunc, .bool false, fv 108, .bool true, fv 109, .bool true, fv 110, .bool true, fv 111, .bool true, fv 112, .bool true, fv 113, .bool true, fv 114, .bool true, fv 115, .bool true, fv 116, .bool true, .nilFunc, .bool false, .nilFunc, .bool false, fv 108, .bool false, fv 109, .bool false, fv 110, .bool false, fv 111, .bool false, fv 112, .bool false, fv 113, .bool false, fv 114, .bool false, fv 115, .bool false, fv 116, .bool false]
theorem pT : (prog.info? 156).map (·.size) = some eM.size := by kernel_rfl
theorem yB : Tryz.zeroCells156.size = eM.size := by kernel_rfl
theorem DD : eM.all (·.oneCell') = true := by kernel_rfl
theorem pU (w : World) : Calls prog 79 #[] w fun e w' => e = .returned (.agg eM) ∧ w' = w.alloc (.cells eM 156) := by
 go_enter func79, ntmps79
 go_wp2_with (first
  | (refine aH (by rfl) 156 _ (by rfl) eM (by kernel_rfl) ?_)
  | (refine aO (by rfl) 156 _ _ (by rfl) (by rfl) Tryz.zeroCells156 eM (by rfl) (by rfl) pT yB DD ?_))
 exact bodyPost_ret (v := .agg eM) (results_cell_row results79 _ _ w.heap.size 156 eM (0, 0) _ (by rfl) (heap_alloc_last w _) underlying156 (by rfl) pT) rfl ⟨rfl, rfl⟩
theorem lX (f : Nat) (w : World) : (binOp .eql 153 (.func (.func f) #[] #[]) .nilFunc).run prog w = .ok (.bool false) w := by kernel_rfl

theorem eK (k : Int) (f : Nat) (a b r : Int) (w : World) (h0 : 0 ≤ k) (h1 : k < 97)
  (hidx : ∀ w, (Instr.index 156 (.agg eM) (.int .i64 k)).run prog w = .ok (.agg #[.func (.func f) #[] #[], .bool false]) w)
  (hcf : ∀ w, (callFunc f #[.int .u64 a, .int .u64 b]).run prog w = .ok (.enter f #[.int .u64 a, .int .u64 b]) w)
  (hf : ∀ w, Calls prog f #[.int .u64 a, .int .u64 b] w fun e w' => e = .returned (.int .u64 r) ∧ w' = w) :
  Calls prog 52 #[.int .i64 k, .int .u64 a, .int .u64 b] w fun e w' => e = .returned (.tuple #[.int .u64 r, .bool true]) ∧ Below w.heap.size w w' := by
 have hnil := lX f
 go_enter func52, ntmps52
 go_wp2_with fail
 refine (pU _).mono ?_
 rintro e w' ⟨rfl, rfl⟩
 go_wp2_with fail
 refine (hf _).mono ?_
 rintro e w' ⟨rfl, rfl⟩
 go_wp2_with fail
 go_ret2
 exact ⟨rfl, ((Below.refl _ _).alloc (Nat.le_refl _) _).alloc (by simp) _⟩

theorem eL (k : Int) (f : Nat) (x y r : BitVec 64) (w : World) (h0 : 0 ≤ k) (h1 : k < 97)
  (hidx : ∀ w, (Instr.index 156 (.agg eM) (.int .i64 k)).run prog w = .ok (.agg #[.func (.func f) #[] #[], .bool true]) w)
  (hcf : ∀ w, (callFunc f #[.int .u64 (n64 (wid x)), .int .u64 (n64 (wid y))]).run prog w = .ok (.enter f #[.int .u64 (n64 (wid x)), .int .u64 (n64 (wid y))]) w)
  (hf : ∀ w, Calls prog f #[.int .u64 (n64 (wid x)), .int .u64 (n64 (wid y))] w fun e w' => e = .returned (.int .u64 (n64 r)) ∧ w' = w) :
  Calls prog 52 #[.int .i64 k, .int .u64 (n64 x), .int .u64 (n64 y)] w fun e w' => e = .returned (.tuple #[.int .u64 (n64 (wid r)), .bool true]) ∧ Below w.heap.size w w' := by
 have hnil := lX f
 go_enter func52, ntmps52
 go_wp2_with fail
 refine (pU _).mono ?_
 rintro e w' ⟨rfl, rfl⟩
 go_wp2_with fail
 go_quiet ((first
  | (go_at_call 80; exact Calls.quiet_of_same (xR _ _))
  | exact Calls.quiet_of_same (hf _)))
 go_wp2
 go_ret2
 exact ⟨rfl, below_drewN (((Below.refl _ _).alloc (Nat.le_refl _) _).alloc (by simp) _) _⟩

theorem rR (x y : BitVec 64) (w : World) : Calls prog 108 #[.int .u64 (n64 x), .int .u64 (n64 y)] w fun e w' => e = .returned (.int .u64 (n64 y)) ∧ w' = w := by
 go_enter func108, ntmps108
 go_wp2
 go_ret
 exact ⟨rfl, rfl⟩
def xG (x y : BitVec 64) : BitVec 64 := if sLt y x then y else x
def xF (x y : BitVec 64) : BitVec 64 := if sLt x y then y else x
def xO (x y : BitVec 64) : BitVec 64 := if uLt y x then y else x
def xN (x y : BitVec 64) : BitVec 64 := if uLt x y then y else x
theorem mG (x y : BitVec 64) (w : World) : Calls prog 113 #[.int .u64 (n64 x), .int .u64 (n64 y)] w fun e w' => e = .returned (.int .u64 (n64 (xG x y))) ∧ w' = w := by
 unfold xG
 have he : sLt y x = decide (wrap64 (n64 y) < wrap64 (n64 x)) := by unfold sLt; rw [dQ, dQ]
 rw [he]
 clear he
 by_cases h : wrap64 (n64 y) < wrap64 (n64 x)
 ·simp only [h, decide_true, if_true]
  go_enter func113, ntmps113
  go_wp2
  go_ret
  exact ⟨dN (by rw [dQ]; exact iN _), rfl⟩
 ·simp only [h, decide_false, Bool.false_eq_true, if_false]
  go_enter func113, ntmps113
  go_wp2
  go_ret
  exact ⟨dN (by rw [dQ]; exact iN _), rfl⟩
theorem kS (x y : BitVec 64) (w : World) : Calls prog 114 #[.int .u64 (n64 x), .int .u64 (n64 y)] w fun e w' => e = .returned (.int .u64 (n64 (xF x y))) ∧ w' = w := by
 unfold xF
 have he : sLt x y = decide (wrap64 (n64 x) < wrap64 (n64 y)) := by unfold sLt; rw [dQ, dQ]
 rw [he]
 clear he
 by_cases h : wrap64 (n64 x) < wrap64 (n64 y)
 ·simp only [h, decide_true, if_true]
  go_enter func114, ntmps114
  go_wp2
  go_ret
  exact ⟨dN (by rw [dQ]; exact iN _), rfl⟩
 ·simp only [h, decide_false, Bool.false_eq_true, if_false]
  go_enter func114, ntmps114
  go_wp2
  go_ret
  exact ⟨dN (by rw [dQ]; exact iN _), rfl⟩
theorem gY (x y : BitVec 64) (w : World) : Calls prog 115 #[.int .u64 (n64 x), .int .u64 (n64 y)] w fun e w' => e = .returned (.int .u64 (n64 (xO x y))) ∧ w' = w := by
 unfold xO
 have he : uLt y x = decide (n64 y < n64 x) := rfl
 rw [he]
 clear he
 by_cases h : n64 y < n64 x
 ·simp only [h, decide_true, if_true]
  go_enter func115, ntmps115
  go_wp2
  go_ret
  exact ⟨rfl, rfl⟩
 ·simp only [h, decide_false, Bool.false_eq_true, if_false]
  go_enter func115, ntmps115
  go_wp2
  go_ret
  exact ⟨rfl, rfl⟩
theorem gB (x y : BitVec 64) (w : World) : Calls prog 116 #[.int .u64 (n64 x), .int .u64 (n64 y)] w fun e w' => e = .returned (.int .u64 (n64 (xN x y))) ∧ w' = w := by
 unfold xN
 have he : uLt x y = decide (n64 x < n64 y) := rfl
 rw [he]
 clear he
 by_cases h : n64 x < n64 y
 ·simp only [h, decide_true, if_true]
  go_enter func116, ntmps116
  go_wp2
  go_ret
  exact ⟨rfl, rfl⟩
 ·simp only [h, decide_false, Bool.false_eq_true, if_false]
  go_enter func116, ntmps116
  go_wp2
  go_ret
  exact ⟨rfl, rfl⟩
theorem EO (x y : BitVec 64) (w : World) : Calls prog 52 #[.int .i64 77, .int .u64 (n64 x), .int .u64 (n64 y)] w fun e w' => e = .returned (.tuple #[.int .u64 (n64 (wid (wid y))), .bool true]) ∧ Below w.heap.size w w' :=
 eL 77 108 x y _ w (by decide) (by decide) (fun _ => by kernel_rfl) (fun _ => by kernel_rfl) (fun w => rR (wid x) (wid y) w)
theorem EN (x y : BitVec 64) (w : World) : Calls prog 52 #[.int .i64 88, .int .u64 (n64 x), .int .u64 (n64 y)] w fun e w' => e = .returned (.tuple #[.int .u64 (n64 (y)), .bool true]) ∧ Below w.heap.size w w' :=
 eK 88 108 _ _ _ w (by decide) (by decide) (fun _ => by kernel_rfl) (fun _ => by kernel_rfl) (fun w => rR x y w)
theorem MJ (x y : BitVec 64) (w : World) : Calls prog 52 #[.int .i64 78, .int .u64 (n64 x), .int .u64 (n64 y)] w fun e w' => e = .returned (.tuple #[.int .u64 (n64 (wid (wid x + wid y))), .bool true]) ∧ Below w.heap.size w w' :=
 eL 78 109 x y _ w (by decide) (by decide) (fun _ => by kernel_rfl) (fun _ => by kernel_rfl) (fun w => tU (wid x) (wid y) w)
theorem MI (x y : BitVec 64) (w : World) : Calls prog 52 #[.int .i64 89, .int .u64 (n64 x), .int .u64 (n64 y)] w fun e w' => e = .returned (.tuple #[.int .u64 (n64 (x + y)), .bool true]) ∧ Below w.heap.size w w' :=
 eK 89 109 _ _ _ w (by decide) (by decide) (fun _ => by kernel_rfl) (fun _ => by kernel_rfl) (fun w => tU x y w)
theorem MN (x y : BitVec 64) (w : World) : Calls prog 52 #[.int .i64 79, .int .u64 (n64 x), .int .u64 (n64 y)] w fun e w' => e = .returned (.tuple #[.int .u64 (n64 (wid (wid x ^^^ wid y))), .bool true]) ∧ Below w.heap.size w w' :=
 eL 79 110 x y _ w (by decide) (by decide) (fun _ => by kernel_rfl) (fun _ => by kernel_rfl) (fun w => vF (wid x) (wid y) w)
theorem MM (x y : BitVec 64) (w : World) : Calls prog 52 #[.int .i64 90, .int .u64 (n64 x), .int .u64 (n64 y)] w fun e w' => e = .returned (.tuple #[.int .u64 (n64 (x ^^^ y)), .bool true]) ∧ Below w.heap.size w w' :=
 eK 90 110 _ _ _ w (by decide) (by decide) (fun _ => by kernel_rfl) (fun _ => by kernel_rfl) (fun w => vF x y w)
theorem ML (x y : BitVec 64) (w : World) : Calls prog 52 #[.int .i64 80, .int .u64 (n64 x), .int .u64 (n64 y)] w fun e w' => e = .returned (.tuple #[.int .u64 (n64 (wid (wid x &&& wid y))), .bool true]) ∧ Below w.heap.size w w' :=
 eL 80 111 x y _ w (by decide) (by decide) (fun _ => by kernel_rfl) (fun _ => by kernel_rfl) (fun w => tW (wid x) (wid y) w)
theorem MK (x y : BitVec 64) (w : World) : Calls prog 52 #[.int .i64 91, .int .u64 (n64 x), .int .u64 (n64 y)] w fun e w' => e = .returned (.tuple #[.int .u64 (n64 (x &&& y)), .bool true]) ∧ Below w.heap.size w w' :=
 eK 91 111 _ _ _ w (by decide) (by decide) (fun _ => by kernel_rfl) (fun _ => by kernel_rfl) (fun w => tW x y w)
theorem TA (x y : BitVec 64) (w : World) : Calls prog 52 #[.int .i64 81, .int .u64 (n64 x), .int .u64 (n64 y)] w fun e w' => e = .returned (.tuple #[.int .u64 (n64 (wid (wid x ||| wid y))), .bool true]) ∧ Below w.heap.size w w' :=
 eL 81 112 x y _ w (by decide) (by decide) (fun _ => by kernel_rfl) (fun _ => by kernel_rfl) (fun w => zZ (wid x) (wid y) w)
theorem SZ (x y : BitVec 64) (w : World) : Calls prog 52 #[.int .i64 92, .int .u64 (n64 x), .int .u64 (n64 y)] w fun e w' => e = .returned (.tuple #[.int .u64 (n64 (x ||| y)), .bool true]) ∧ Below w.heap.size w w' :=
 eK 92 112 _ _ _ w (by decide) (by decide) (fun _ => by kernel_rfl) (fun _ => by kernel_rfl) (fun w => zZ x y w)
theorem wH (x y : BitVec 64) (w : World) : Calls prog 52 #[.int .i64 82, .int .u64 (n64 x), .int .u64 (n64 y)] w fun e w' => e = .returned (.tuple #[.int .u64 (n64 (wid (xG (wid x) (wid y)))), .bool true]) ∧ Below w.heap.size w w' :=
 eL 82 113 x y _ w (by decide) (by decide) (fun _ => by kernel_rfl) (fun _ => by kernel_rfl) (fun w => mG (wid x) (wid y) w)
theorem wG (x y : BitVec 64) (w : World) : Calls prog 52 #[.int .i64 93, .int .u64 (n64 x), .int .u64 (n64 y)] w fun e w' => e = .returned (.tuple #[.int .u64 (n64 (xG x y)), .bool true]) ∧ Below w.heap.size w w' :=
 eK 93 113 _ _ _ w (by decide) (by decide) (fun _ => by kernel_rfl) (fun _ => by kernel_rfl) (fun w => mG x y w)
theorem sN (x y : BitVec 64) (w : World) : Calls prog 52 #[.int .i64 83, .int .u64 (n64 x), .int .u64 (n64 y)] w fun e w' => e = .returned (.tuple #[.int .u64 (n64 (wid (xF (wid x) (wid y)))), .bool true]) ∧ Below w.heap.size w w' :=
 eL 83 114 x y _ w (by decide) (by decide) (fun _ => by kernel_rfl) (fun _ => by kernel_rfl) (fun w => kS (wid x) (wid y) w)
theorem sM (x y : BitVec 64) (w : World) : Calls prog 52 #[.int .i64 94, .int .u64 (n64 x), .int .u64 (n64 y)] w fun e w' => e = .returned (.tuple #[.int .u64 (n64 (xF x y)), .bool true]) ∧ Below w.heap.size w w' :=
 eK 94 114 _ _ _ w (by decide) (by decide) (fun _ => by kernel_rfl) (fun _ => by kernel_rfl) (fun w => kS x y w)
theorem mI (x y : BitVec 64) (w : World) : Calls prog 52 #[.int .i64 84, .int .u64 (n64 x), .int .u64 (n64 y)] w fun e w' => e = .returned (.tuple #[.int .u64 (n64 (wid (xO (wid x) (wid y)))), .bool true]) ∧ Below w.heap.size w w' :=
 eL 84 115 x y _ w (by decide) (by decide) (fun _ => by kernel_rfl) (fun _ => by kernel_rfl) (fun w => gY (wid x) (wid y) w)
theorem mH (x y : BitVec 64) (w : World) : Calls prog 52 #[.int .i64 95, .int .u64 (n64 x), .int .u64 (n64 y)] w fun e w' => e = .returned (.tuple #[.int .u64 (n64 (xO x y)), .bool true]) ∧ Below w.heap.size w w' :=
 eK 95 115 _ _ _ w (by decide) (by decide) (fun _ => by kernel_rfl) (fun _ => by kernel_rfl) (fun w => gY x y w)
theorem lF (x y : BitVec 64) (w : World) : Calls prog 52 #[.int .i64 85, .int .u64 (n64 x), .int .u64 (n64 y)] w fun e w' => e = .returned (.tuple #[.int .u64 (n64 (wid (xN (wid x) (wid y)))), .bool true]) ∧ Below w.heap.size w w' :=
 eL 85 116 x y _ w (by decide) (by decide) (fun _ => by kernel_rfl) (fun _ => by kernel_rfl) (fun w => gB (wid x) (wid y) w)
theorem lE (x y : BitVec 64) (w : World) : Calls prog 52 #[.int .i64 96, .int .u64 (n64 x), .int .u64 (n64 y)] w fun e w' => e = .returned (.tuple #[.int .u64 (n64 (xN x y)), .bool true]) ∧ Below w.heap.size w w' :=
 eK 96 116 _ _ _ w (by decide) (by decide) (fun _ => by kernel_rfl) (fun _ => by kernel_rfl) (fun w => gB x y w)
theorem yA (w : World) (A B : Array Value) (ta tb : TypeId) (i : Nat) : ((w.alloc (.cells A ta)).alloc (.cells B tb)).cell? ⟨w.heap.size, i, none⟩ = A[i]? := by
 rw [World.cell?_alloc_past _ _ _ (by simp only [World.size_alloc]; omega), World.cell?_alloc_at _ _ _ _ rfl]
theorem pR (w : World) (A B : Array Value) (ta tb : TypeId) (i : Nat) : ((w.alloc (.cells A ta)).alloc (.cells B tb)).cell? ⟨w.heap.size + 1, i, none⟩ = B[i]? := by
 rw [World.cell?_alloc_at _ _ _ _ (by simp only [World.size_alloc])]
theorem gV (w : World) : Calls prog 92 #[] w fun e w' => e = .returned (.slice (some ⟨w.heap.size, 0, none⟩) 9 9) ∧ w' = w.alloc (.cells #[.int .i64 77, .int .i64 78, .int .i64 79, .int .i64 80, .int .i64 81, .int .i64 82, .int .i64 83, .int .i64 84, .int .i64 85] 3) := by
 go_enter func92, ntmps92
 go_wp2
 go_ret
 exact ⟨rfl, rfl⟩
theorem jP (w : World) : Calls prog 93 #[] w fun e w' => e = .returned (.slice (some ⟨w.heap.size, 0, none⟩) 9 9) ∧ w' = w.alloc (.cells #[.int .i64 88, .int .i64 89, .int .i64 90, .int .i64 91, .int .i64 92, .int .i64 93, .int .i64 94, .int .i64 95, .int .i64 96] 3) := by
 go_enter func93, ntmps93
 go_wp2
 go_ret
 exact ⟨rfl, rfl⟩
def asz (k : Int) : Int := if 77 ≤ k ∧ k ≤ 85 then 4 else if 88 ≤ k ∧ k ≤ 96 then 8 else 0
theorem hJ (op : Int) (w : World) : Calls prog 64 #[.int .i64 op] w fun e w' => e = .returned (.int .i64 (asz op)) ∧ Below w.heap.size w w' := by
 obtain ⟨W, hW⟩ : ∃ W, W = (w.alloc (.cells #[.int .i64 77, .int .i64 78, .int .i64 79, .int .i64 80, .int .i64 81, .int .i64 82, .int .i64 83, .int .i64 84, .int .i64 85] 3)).alloc (.cells #[.int .i64 88, .int .i64 89, .int .i64 90, .int .i64 91, .int .i64 92, .int .i64 93, .int .i64 94, .int .i64 95, .int .i64 96] 3) := ⟨_, rfl⟩
 have hf0 : ∀ k : Nat, k < 9 → W.cell? ⟨w.heap.size, k, none⟩ = some (.int .i64 (77 + (k : Int))) := fun k hk => by
  rw [hW, yA]
  match k, hk with
  | 0, _ => rfl
  | 1, _ => rfl
  | 2, _ => rfl
  | 3, _ => rfl
  | 4, _ => rfl
  | 5, _ => rfl
  | 6, _ => rfl
  | 7, _ => rfl
  | 8, _ => rfl
 have hf1 : ∀ k : Nat, k < 9 → W.cell? ⟨w.heap.size + 1, k, none⟩ = some (.int .i64 (88 + (k : Int))) := fun k hk => by
  rw [hW, pR]
  match k, hk with
  | 0, _ => rfl
  | 1, _ => rfl
  | 2, _ => rfl
  | 3, _ => rfl
  | 4, _ => rfl
  | 5, _ => rfl
  | 6, _ => rfl
  | 7, _ => rfl
  | 8, _ => rfl
 have hbel : Below w.heap.size w W := by
  rw [hW]; exact ((Below.refl _ _).alloc (Nat.le_refl _) _).alloc (by simp) _
 go_enter func64, ntmps64
 go_wp2_with (first | (go_at_call 92; refine (gV _).mono ?_; rintro e w' ⟨rfl, rfl⟩) | (go_at_call 93; refine (jP _).mono ?_; rintro e w' ⟨rfl, rfl⟩))
 rw [← hW]
 have HB := hid hbel
 clear hW hbel
 go_loop [5] (fun i => ∃ k : Nat, k ≤ 9 ∧ i = .int .i64 k ∧ Hid ((op < 77 ∨ 77 + (k : Int) ≤ op) ∧ (op < 88 ∨ 88 + (k : Int) ≤ op))) (fun i => 9 - (intOf i).toNat)
 case atStart => exact ⟨0, Nat.zero_le _, rfl, by show _ ∧ _; omega⟩
 case round =>
  obtain ⟨k, hk, rfl, hh⟩ := hrel
  by_cases hlt : k < 9
  ·have h0 := hf0 k hlt
   have h1 := hf1 k hlt
   have hl1 : (0 : Int) ≤ (k : Int) := by omega
   have hl2 : (k : Int) < 9 := by omega
   clear hf0 hf1
   by_cases e0 : op = 77 + (k : Int)
   ·have t0 : (77 + (k : Int) == op) = true := by simp [e0]
    have ha : Hid (asz op = 4) := by show asz op = 4; unfold asz; rw [if_pos (by omega)]
    clear e0
    go_wp2
    go_ret
    exact ⟨dN ha.out.symm, HB.out⟩
   ·have t0 : (77 + (k : Int) == op) = false := by simp; omega
    by_cases e1 : op = 88 + (k : Int)
    ·have t1 : (88 + (k : Int) == op) = true := by simp [e1]
     have ha : Hid (asz op = 8) := by show asz op = 8; unfold asz; rw [if_neg (by omega), if_pos (by omega)]
     clear e0 e1
     go_wp2
     go_ret
     exact ⟨dN ha.out.symm, HB.out⟩
    ·have t1 : (88 + (k : Int) == op) = false := by simp; omega
     have hn : Hid ((op < 77 ∨ 77 + ((k + 1 : Nat) : Int) ≤ op) ∧ (op < 88 ∨ 88 + ((k + 1 : Nat) : Int) ≤ op)) := by
      have := hh.out
      show _ ∧ _; omega
     clear e0 e1 hh
     go_wp2
     go_round
     case rel => exact ⟨k + 1, by omega, by go_num, hn⟩
     case measure => simp [intOf]; omega
  ·have hl2 : (9 : Int) ≤ (k : Int) := by omega
   have ha : Hid (asz op = 0) := by
    have := hh.out
    show asz op = 0; unfold asz; rw [if_neg (by omega), if_neg (by omega)]
   clear hf0 hf1 hh
   go_wp2
   go_ret
   exact ⟨dN ha.out.symm, HB.out⟩
/-! Extend -/
theorem rU (A n : Nat) (hn0 : 0 < n) (hn : n ≤ 200) (va : Value) (w : World) (la : Lst w va (bl A n)) :
  Calls prog 97 #[va, .int .i64 64, .bool true] w fun e w' => ∃ v, e = .returned v ∧ Lst w' v (bl (wdn A n) 64) ∧ Below w.heap.size w w' := by
 have h := tJ A n 64 hn0 (by decide) hn (by decide) va w la
 rw [qY (g := bt (wdn A n)) (fun j hj => by rw [vC A n j hj]; rfl)] at h
 exact h
end Go.Proofs.YtiffkbmppmejhaaGreatDoor
