import Derived.Test.YtddlmenfcbjoaaaGreatDoorK02
import Derived.Laws.EntriesVeiled
namespace Go.Proofs.YtddlmenfcbjoaaaGreatDoor
set_option linter.unusedVariables false
set_option maxRecDepth 100000
set_option maxHeartbeats 8000000
open Go.ChangeShapes Go.WideShapes Go.ChangeAt Go.RowKit _root_.Go.Proofs.Tryz
def jA : Array Value := #[.nilFunc, .nilFunc, .nilFunc, .nilFunc, .nilFunc, fv 153, fv 154, fv 155, fv 156, fv 157, fv 158, .nilFunc, .nilFunc, .nilFunc, .nilFunc, .nilFunc, .nilFunc, .nilFunc, .nilFunc, .nilFunc, .nilFunc, .nilFunc, .nilFunc, .nilFunc, .nilFunc, .nilFunc, .nilFunc, .nilFunc, .nilFunc, .nilFunc, .nilFunc, .nilFunc, .nilFunc, .nilFunc, .nilFunc, .nilFunc, .nilFunc, .nilFunc, .nilFunc, .nilFunc, .nilFunc, .nilFunc, .nilFunc, .nilFunc, .nilFunc, .nilFunc, .nilFunc, .nilFunc, .nilFunc, .nilFunc, .nilFunc, .nilFunc, .nilFunc, .nilFunc, .nilFunc, .nilFunc, .nilFunc, .nilFunc, .nilFunc, .nilFunc, .nilFunc, .nilFunc, .nilFunc, .nilFunc, .nilFunc, .nilFunc, .nilFunc, .nilFunc, .nilFunc, .nilFunc, .nilFunc, .nilFunc, .nilFunc, .nilFunc, .nilFunc, .nilFunc, .nilFunc, .nilFunc, .nilFunc, .nilFunc, .nilFunc, .nilFunc, .nilFunc, .nilFunc, .nilFunc, .nilFunc, .nilFunc, .nilFunc, .nilFunc, .nilFunc, .nilFunc, .nilFunc, .nilFunc, .nilFunc, .nilFunc, .nilFunc, .nilFunc]
theorem zT : (prog.info? 180).map (·.size) = some jA.size := by kernel_rfl
theorem NU : Tryz.zeroCells180.size = jA.size := by kernel_rfl
theorem UX : jA.all (·.oneCell') = true := by kernel_rfl
theorem tG (w : World) : Calls prog 125 #[] w fun e w' => e = .returned (.agg jA) ∧ w' = w.alloc (.cells jA 180) := by
 go_enter func125, ntmps125
 go_wp2_with (first
  | (refine aC (by rfl) 180 _ (by rfl) jA (by kernel_rfl) ?_)
  | (refine aK (by rfl) 180 _ _ (by rfl) (by rfl) Tryz.zeroCells180 jA (by rfl) (by rfl) zT NU UX ?_))
 exact ZqH (v := .agg jA) (ZqM results125 _ _ w.heap.size 180 jA (0, 0) _ (by rfl) (heap_alloc_last w _) underlying180 (by rfl) zT) rfl ⟨rfl, rfl⟩
theorem FD (f : Nat) (w : World) : (Instr.field 179 (.agg #[.func (.func f) #[] #[]]) 0).run prog w = .ok (.func (.func f) #[] #[]) w := by kernel_rfl
theorem CE (f : Nat) (w : World) : (binOp .eql 177 (.func (.func f) #[] #[]) .nilFunc).run prog w = .ok (.bool false) w := by kernel_rfl

theorem jP (k : Int) (f : Nat) (a b : Int) (r : Bool) (w : World) (h0 : 0 ≤ k) (h1 : k < 97)
  (hidx : ∀ w, (Instr.index 180 (.agg jA) (.int .i64 k)).run prog w = .ok (.agg #[.func (.func f) #[] #[]]) w)
  (hcf : ∀ w, (callFunc f #[.int .u64 a, .int .u64 b]).run prog w = .ok (.enter f #[.int .u64 a, .int .u64 b]) w)
  (hf : ∀ w, Calls prog f #[.int .u64 a, .int .u64 b] w fun e w' => e = .returned (.bool r) ∧ w' = w) :
  Calls prog 91 #[.int .i64 k, .int .u64 a, .int .u64 b] w fun e w' => e = .returned (.tuple #[.bool r, .bool true]) ∧ Below w.heap.size w w' := by
 have hfld := FD f
 have hnil := CE f
 go_enter func91, ntmps91
 go_wp2_with fail
 refine (tG _).mono ?_
 rintro e w' ⟨rfl, rfl⟩
 go_wp2_with fail
 refine (hf _).mono ?_
 rintro e w' ⟨rfl, rfl⟩
 go_wp2_with fail
 go_ret2
 exact ⟨rfl, (ZqD _ _).alloc (ZqE _) _⟩

def uLt (x y : BitVec 64) : Bool := decide (n64 x < n64 y)
def sLt (x y : BitVec 64) : Bool := decide (x.toInt < y.toInt)
def eqB (x y : BitVec 64) : Bool := n64 x == n64 y
theorem qQ {a b : Bool} (h : a = b) : Ending.returned (.bool a) = .returned (.bool b) := by rw [h]

theorem br1 (x y : BitVec 64) (w : World) : Calls prog 153 #[.int .u64 (n64 x), .int .u64 (n64 y)] w fun e w' => e = .returned (.bool (eqB x y)) ∧ w' = w := by
 go_enter func153, ntmps153
 go_wp2
 go_ret
 exact ⟨rfl, rfl⟩
theorem br2 (x y : BitVec 64) (w : World) : Calls prog 154 #[.int .u64 (n64 x), .int .u64 (n64 y)] w fun e w' => e = .returned (.bool (!eqB x y)) ∧ w' = w := by
 go_enter func154, ntmps154
 go_wp2
 go_ret
 exact ⟨rfl, rfl⟩
theorem br3 (x y : BitVec 64) (w : World) : Calls prog 155 #[.int .u64 (n64 x), .int .u64 (n64 y)] w fun e w' => e = .returned (.bool (sLt x y)) ∧ w' = w := by
 go_enter func155, ntmps155
 go_wp2
 go_ret
 exact ⟨qQ (by unfold sLt; rw [bR, bR]), rfl⟩
theorem br4 (x y : BitVec 64) (w : World) : Calls prog 156 #[.int .u64 (n64 x), .int .u64 (n64 y)] w fun e w' => e = .returned (.bool (!sLt x y)) ∧ w' = w := by
 go_enter func156, ntmps156
 go_wp2
 go_ret
 exact ⟨qQ (by unfold sLt; rw [bR, bR, Bool.eq_iff_iff]; simp), rfl⟩
theorem br5 (x y : BitVec 64) (w : World) : Calls prog 157 #[.int .u64 (n64 x), .int .u64 (n64 y)] w fun e w' => e = .returned (.bool (uLt x y)) ∧ w' = w := by
 go_enter func157, ntmps157
 go_wp2
 go_ret
 exact ⟨rfl, rfl⟩
theorem br6 (x y : BitVec 64) (w : World) : Calls prog 158 #[.int .u64 (n64 x), .int .u64 (n64 y)] w fun e w' => e = .returned (.bool (!uLt x y)) ∧ w' = w := by
 go_enter func158, ntmps158
 go_wp2
 go_ret
 exact ⟨qQ (by unfold uLt; rw [Bool.eq_iff_iff]; simp), rfl⟩

theorem t_1 (x y : BitVec 64) (w : World) : Calls prog 91 #[.int .i64 5, .int .u64 (n64 x), .int .u64 (n64 y)] w fun e w' => e = .returned (.tuple #[.bool (eqB x y), .bool true]) ∧ Below w.heap.size w w' :=
 jP 5 153 _ _ _ w (by decide) (by decide) (fun _ => by kernel_rfl) (fun _ => by kernel_rfl) (fun w => br1 x y w)
theorem t_2 (x y : BitVec 64) (w : World) : Calls prog 91 #[.int .i64 6, .int .u64 (n64 x), .int .u64 (n64 y)] w fun e w' => e = .returned (.tuple #[.bool (!eqB x y), .bool true]) ∧ Below w.heap.size w w' :=
 jP 6 154 _ _ _ w (by decide) (by decide) (fun _ => by kernel_rfl) (fun _ => by kernel_rfl) (fun w => br2 x y w)
theorem t_3 (x y : BitVec 64) (w : World) : Calls prog 91 #[.int .i64 7, .int .u64 (n64 x), .int .u64 (n64 y)] w fun e w' => e = .returned (.tuple #[.bool (sLt x y), .bool true]) ∧ Below w.heap.size w w' :=
 jP 7 155 _ _ _ w (by decide) (by decide) (fun _ => by kernel_rfl) (fun _ => by kernel_rfl) (fun w => br3 x y w)
theorem t_4 (x y : BitVec 64) (w : World) : Calls prog 91 #[.int .i64 8, .int .u64 (n64 x), .int .u64 (n64 y)] w fun e w' => e = .returned (.tuple #[.bool (!sLt x y), .bool true]) ∧ Below w.heap.size w w' :=
 jP 8 156 _ _ _ w (by decide) (by decide) (fun _ => by kernel_rfl) (fun _ => by kernel_rfl) (fun w => br4 x y w)
theorem t_5 (x y : BitVec 64) (w : World) : Calls prog 91 #[.int .i64 9, .int .u64 (n64 x), .int .u64 (n64 y)] w fun e w' => e = .returned (.tuple #[.bool (uLt x y), .bool true]) ∧ Below w.heap.size w w' :=
 jP 9 157 _ _ _ w (by decide) (by decide) (fun _ => by kernel_rfl) (fun _ => by kernel_rfl) (fun w => br5 x y w)
theorem t_6 (x y : BitVec 64) (w : World) : Calls prog 91 #[.int .i64 10, .int .u64 (n64 x), .int .u64 (n64 y)] w fun e w' => e = .returned (.tuple #[.bool (!uLt x y), .bool true]) ∧ Below w.heap.size w w' :=
 jP 10 158 _ _ _ w (by decide) (by decide) (fun _ => by kernel_rfl) (fun _ => by kernel_rfl) (fun w => br6 x y w)
def fU : Array Value := #[.nilFunc, .bool false, .nilFunc, .bool false, .nilFunc, .bool false, .nilFunc, .bool false, .nilFunc, .bool false, .nilFunc, .bool false, .nilFunc, .bool false, .nilFunc, .bool false, .nilFunc, .bool false, .nilFunc, .bool false, .nilFunc, .bool false, .nilFunc, .bool false, .nilFunc, .bool false, .nilFunc, .bool false, .nilFunc, .bool false, .nilFunc, .bool false, .nilFunc, .bool false, .nilFunc, .bool false, .nilFunc, .bool false, .nilFunc, .bool false, .nilFunc, .bool false, .nilFunc, .bool false, .nilFunc, .bool false, .nilFunc, .bool false, .nilFunc, .bool false, .nilFunc, .bool false, .nilFunc, .bool false, .nilFunc, .bool false, .nilFunc, .bool false, .nilFunc, .bool false, .nilFunc, .bool false, .nilFunc, .bool false, .nilFunc, .bool false, .nilFunc, .bool false, .nilFunc, .bool false, .nilFunc, .bool false, .nilFunc, .bool false, .nilFunc, .bool false, .nilFunc, .bool false, .nilFunc, .bool false, .nilFunc, .bool false, .nilFunc, .bool false, .nilFunc, .bool false, .nilFunc, .bool false, .nilFunc, .bool false, .nilFunc, .bool false, .nilFunc, .bool false, .nilFunc, .bool false, .nilFunc, .bool false, .nilFunc, .bool false, .nilFunc, .bool false, .nilFunc, .bool false, .nilFunc, .bool false, .nilFunc, .bool false, .nilFunc, .bool false, .nilFunc, .bool false, .nilFunc, .bool false, .nilFunc, .bool false, .nilFunc, .bool false, .nilFunc, .bool false, .nilFunc, .bool false, .nilFunc, .bool false, .nilFunc, .bool false, .nilFunc, .bool false, .nilFunc, .bool false, .nilFunc, .bool false, .nilFunc, .bool false, .nilFunc, .bool false, .nilFunc, .bool false, .nilFunc, .bool false, .nilFunc, .bool false, .nilFunc, .bool false, .nilFunc, .bool false, .nilFunc, .bool false, .nilFunc, .bool false, .nilFunc, .bool false, .nilFunc, .bool false, fv 210, .bool true, fv 180, .bool true, fv 187, .bool true, fv 189, .bool true, fv 188, .bool true, fv 211, .bool true, fv 212, .bool true, fv 213, .bool true, fv 214, .bool true, .nilFunc, .bool false, .nilFunc, .bool false, fv 210, .bool false, fv 180, .bool false, fv 187, .bool false, fv 189, .bool false, fv 188, .bool false, fv 211, .bool false, fv 212, .bool false, fv 213, .bool false, fv 214, .bool false]
theorem uW : (prog.info? 215).map (·.size) = some fU.size := by kernel_rfl
theorem EY : Tryz.zeroCells215.size = fU.size := by kernel_rfl
theorem NM : fU.all (·.oneCell') = true := by kernel_rfl
theorem uX (w : World) : Calls prog 171 #[] w fun e w' => e = .returned (.agg fU) ∧ w' = w.alloc (.cells fU 215) := by
 go_enter func171, ntmps171
 go_wp2_with (first
  | (refine aC (by rfl) 215 _ (by rfl) fU (by kernel_rfl) ?_)
  | (refine aK (by rfl) 215 _ _ (by rfl) (by rfl) Tryz.zeroCells215 fU (by rfl) (by rfl) uW EY NM ?_))
 exact ZqH (v := .agg fU) (ZqM results171 _ _ w.heap.size 215 fU (0, 0) _ (by rfl) (heap_alloc_last w _) underlying215 (by rfl) uW) rfl ⟨rfl, rfl⟩
theorem pL (f : Nat) (w : World) : (binOp .eql 207 (.func (.func f) #[] #[]) .nilFunc).run prog w = .ok (.bool false) w := by kernel_rfl

theorem fS (k : Int) (f : Nat) (a b r : Int) (w : World) (h0 : 0 ≤ k) (h1 : k < 97)
  (hidx : ∀ w, (Instr.index 215 (.agg fU) (.int .i64 k)).run prog w = .ok (.agg #[.func (.func f) #[] #[], .bool false]) w)
  (hcf : ∀ w, (callFunc f #[.int .u64 a, .int .u64 b]).run prog w = .ok (.enter f #[.int .u64 a, .int .u64 b]) w)
  (hf : ∀ w, Calls prog f #[.int .u64 a, .int .u64 b] w fun e w' => e = .returned (.int .u64 r) ∧ w' = w) :
  Calls prog 141 #[.int .i64 k, .int .u64 a, .int .u64 b] w fun e w' => e = .returned (.tuple #[.int .u64 r, .bool true]) ∧ Below w.heap.size w w' := by
 have hnil := pL f
 go_enter func141, ntmps141
 go_wp2_with fail
 refine (uX _).mono ?_
 rintro e w' ⟨rfl, rfl⟩
 go_wp2_with fail
 refine (hf _).mono ?_
 rintro e w' ⟨rfl, rfl⟩
 go_wp2_with fail
 go_ret2
 exact ⟨rfl, ((ZqD _ _).alloc (ZqE _) _).alloc (by simp) _⟩

theorem fT (k : Int) (f : Nat) (x y r : BitVec 64) (w : World) (h0 : 0 ≤ k) (h1 : k < 97)
  (hidx : ∀ w, (Instr.index 215 (.agg fU) (.int .i64 k)).run prog w = .ok (.agg #[.func (.func f) #[] #[], .bool true]) w)
  (hcf : ∀ w, (callFunc f #[.int .u64 (n64 (wid x)), .int .u64 (n64 (wid y))]).run prog w = .ok (.enter f #[.int .u64 (n64 (wid x)), .int .u64 (n64 (wid y))]) w)
  (hf : ∀ w, Calls prog f #[.int .u64 (n64 (wid x)), .int .u64 (n64 (wid y))] w fun e w' => e = .returned (.int .u64 (n64 r)) ∧ w' = w) :
  Calls prog 141 #[.int .i64 k, .int .u64 (n64 x), .int .u64 (n64 y)] w fun e w' => e = .returned (.tuple #[.int .u64 (n64 (wid r)), .bool true]) ∧ Below w.heap.size w w' := by
 have hnil := pL f
 go_enter func141, ntmps141
 go_wp2_with fail
 refine (uX _).mono ?_
 rintro e w' ⟨rfl, rfl⟩
 go_wp2_with fail
 go_quiet ((first
  | (go_at_call 172; exact Calls.quiet_of_same (dY _ _))
  | exact Calls.quiet_of_same (hf _)))
 go_wp2
 go_ret2
 exact ⟨rfl, below_drewN (((ZqD _ _).alloc (ZqE _) _).alloc (by simp) _) _⟩

theorem wT (x y : BitVec 64) (w : World) : Calls prog 210 #[.int .u64 (n64 x), .int .u64 (n64 y)] w fun e w' => e = .returned (.int .u64 (n64 y)) ∧ w' = w := by
 go_enter func210, ntmps210
 go_wp2
 go_ret
 exact ⟨rfl, rfl⟩
def DR (x y : BitVec 64) : BitVec 64 := if sLt y x then y else x
def DQ (x y : BitVec 64) : BitVec 64 := if sLt x y then y else x
def EB (x y : BitVec 64) : BitVec 64 := if uLt y x then y else x
def EA (x y : BitVec 64) : BitVec 64 := if uLt x y then y else x
theorem qC (x y : BitVec 64) (w : World) : Calls prog 211 #[.int .u64 (n64 x), .int .u64 (n64 y)] w fun e w' => e = .returned (.int .u64 (n64 (DR x y))) ∧ w' = w := by
 unfold DR
 have he : sLt y x = decide (wrap64 (n64 y) < wrap64 (n64 x)) := by unfold sLt; rw [bR, bR]
 rw [he]
 clear he
 by_cases h : wrap64 (n64 y) < wrap64 (n64 x)
 ·simp only [h, decide_true, if_true]
  go_enter func211, ntmps211
  go_wp2
  go_ret
  exact ⟨cH (by rw [bR]; exact gG _), rfl⟩
 ·simp only [h, decide_false, Bool.false_eq_true, if_false]
  go_enter func211, ntmps211
  go_wp2
  go_ret
  exact ⟨cH (by rw [bR]; exact gG _), rfl⟩
theorem nY (x y : BitVec 64) (w : World) : Calls prog 212 #[.int .u64 (n64 x), .int .u64 (n64 y)] w fun e w' => e = .returned (.int .u64 (n64 (DQ x y))) ∧ w' = w := by
 unfold DQ
 have he : sLt x y = decide (wrap64 (n64 x) < wrap64 (n64 y)) := by unfold sLt; rw [bR, bR]
 rw [he]
 clear he
 by_cases h : wrap64 (n64 x) < wrap64 (n64 y)
 ·simp only [h, decide_true, if_true]
  go_enter func212, ntmps212
  go_wp2
  go_ret
  exact ⟨cH (by rw [bR]; exact gG _), rfl⟩
 ·simp only [h, decide_false, Bool.false_eq_true, if_false]
  go_enter func212, ntmps212
  go_wp2
  go_ret
  exact ⟨cH (by rw [bR]; exact gG _), rfl⟩
theorem kO (x y : BitVec 64) (w : World) : Calls prog 213 #[.int .u64 (n64 x), .int .u64 (n64 y)] w fun e w' => e = .returned (.int .u64 (n64 (EB x y))) ∧ w' = w := by
 unfold EB
 have he : uLt y x = decide (n64 y < n64 x) := rfl
 rw [he]
 clear he
 by_cases h : n64 y < n64 x
 ·simp only [h, decide_true, if_true]
  go_enter func213, ntmps213
  go_wp2
  go_ret
  exact ⟨rfl, rfl⟩
 ·simp only [h, decide_false, Bool.false_eq_true, if_false]
  go_enter func213, ntmps213
  go_wp2
  go_ret
  exact ⟨rfl, rfl⟩
theorem jI (x y : BitVec 64) (w : World) : Calls prog 214 #[.int .u64 (n64 x), .int .u64 (n64 y)] w fun e w' => e = .returned (.int .u64 (n64 (EA x y))) ∧ w' = w := by
 unfold EA
 have he : uLt x y = decide (n64 x < n64 y) := rfl
 rw [he]
 clear he
 by_cases h : n64 x < n64 y
 ·simp only [h, decide_true, if_true]
  go_enter func214, ntmps214
  go_wp2
  go_ret
  exact ⟨rfl, rfl⟩
 ·simp only [h, decide_false, Bool.false_eq_true, if_false]
  go_enter func214, ntmps214
  go_wp2
  go_ret
  exact ⟨rfl, rfl⟩
theorem PT (x y : BitVec 64) (w : World) : Calls prog 141 #[.int .i64 77, .int .u64 (n64 x), .int .u64 (n64 y)] w fun e w' => e = .returned (.tuple #[.int .u64 (n64 (wid (wid y))), .bool true]) ∧ Below w.heap.size w w' :=
 fT 77 210 x y _ w (by decide) (by decide) (fun _ => by kernel_rfl) (fun _ => by kernel_rfl) (fun w => wT (wid x) (wid y) w)
theorem PS (x y : BitVec 64) (w : World) : Calls prog 141 #[.int .i64 88, .int .u64 (n64 x), .int .u64 (n64 y)] w fun e w' => e = .returned (.tuple #[.int .u64 (n64 (y)), .bool true]) ∧ Below w.heap.size w w' :=
 fS 88 210 _ _ _ w (by decide) (by decide) (fun _ => by kernel_rfl) (fun _ => by kernel_rfl) (fun w => wT x y w)
theorem YK (x y : BitVec 64) (w : World) : Calls prog 141 #[.int .i64 78, .int .u64 (n64 x), .int .u64 (n64 y)] w fun e w' => e = .returned (.tuple #[.int .u64 (n64 (wid (wid x + wid y))), .bool true]) ∧ Below w.heap.size w w' :=
 fT 78 180 x y _ w (by decide) (by decide) (fun _ => by kernel_rfl) (fun _ => by kernel_rfl) (fun w => mN (wid x) (wid y) w)
theorem YJ (x y : BitVec 64) (w : World) : Calls prog 141 #[.int .i64 89, .int .u64 (n64 x), .int .u64 (n64 y)] w fun e w' => e = .returned (.tuple #[.int .u64 (n64 (x + y)), .bool true]) ∧ Below w.heap.size w w' :=
 fS 89 180 _ _ _ w (by decide) (by decide) (fun _ => by kernel_rfl) (fun _ => by kernel_rfl) (fun w => mN x y w)
theorem YO (x y : BitVec 64) (w : World) : Calls prog 141 #[.int .i64 79, .int .u64 (n64 x), .int .u64 (n64 y)] w fun e w' => e = .returned (.tuple #[.int .u64 (n64 (wid (wid x ^^^ wid y))), .bool true]) ∧ Below w.heap.size w w' :=
 fT 79 187 x y _ w (by decide) (by decide) (fun _ => by kernel_rfl) (fun _ => by kernel_rfl) (fun w => pH (wid x) (wid y) w)
theorem YN (x y : BitVec 64) (w : World) : Calls prog 141 #[.int .i64 90, .int .u64 (n64 x), .int .u64 (n64 y)] w fun e w' => e = .returned (.tuple #[.int .u64 (n64 (x ^^^ y)), .bool true]) ∧ Below w.heap.size w w' :=
 fS 90 187 _ _ _ w (by decide) (by decide) (fun _ => by kernel_rfl) (fun _ => by kernel_rfl) (fun w => pH x y w)
theorem YM (x y : BitVec 64) (w : World) : Calls prog 141 #[.int .i64 80, .int .u64 (n64 x), .int .u64 (n64 y)] w fun e w' => e = .returned (.tuple #[.int .u64 (n64 (wid (wid x &&& wid y))), .bool true]) ∧ Below w.heap.size w w' :=
 fT 80 189 x y _ w (by decide) (by decide) (fun _ => by kernel_rfl) (fun _ => by kernel_rfl) (fun w => oS (wid x) (wid y) w)
theorem YL (x y : BitVec 64) (w : World) : Calls prog 141 #[.int .i64 91, .int .u64 (n64 x), .int .u64 (n64 y)] w fun e w' => e = .returned (.tuple #[.int .u64 (n64 (x &&& y)), .bool true]) ∧ Below w.heap.size w w' :=
 fS 91 189 _ _ _ w (by decide) (by decide) (fun _ => by kernel_rfl) (fun _ => by kernel_rfl) (fun w => oS x y w)
theorem m_orW (x y : BitVec 64) (w : World) : Calls prog 141 #[.int .i64 81, .int .u64 (n64 x), .int .u64 (n64 y)] w fun e w' => e = .returned (.tuple #[.int .u64 (n64 (wid (wid x ||| wid y))), .bool true]) ∧ Below w.heap.size w w' :=
 fT 81 188 x y _ w (by decide) (by decide) (fun _ => by kernel_rfl) (fun _ => by kernel_rfl) (fun w => tZ (wid x) (wid y) w)
theorem m_orD (x y : BitVec 64) (w : World) : Calls prog 141 #[.int .i64 92, .int .u64 (n64 x), .int .u64 (n64 y)] w fun e w' => e = .returned (.tuple #[.int .u64 (n64 (x ||| y)), .bool true]) ∧ Below w.heap.size w w' :=
 fS 92 188 _ _ _ w (by decide) (by decide) (fun _ => by kernel_rfl) (fun _ => by kernel_rfl) (fun w => tZ x y w)
theorem CZ (x y : BitVec 64) (w : World) : Calls prog 141 #[.int .i64 82, .int .u64 (n64 x), .int .u64 (n64 y)] w fun e w' => e = .returned (.tuple #[.int .u64 (n64 (wid (DR (wid x) (wid y)))), .bool true]) ∧ Below w.heap.size w w' :=
 fT 82 211 x y _ w (by decide) (by decide) (fun _ => by kernel_rfl) (fun _ => by kernel_rfl) (fun w => qC (wid x) (wid y) w)
theorem CY (x y : BitVec 64) (w : World) : Calls prog 141 #[.int .i64 93, .int .u64 (n64 x), .int .u64 (n64 y)] w fun e w' => e = .returned (.tuple #[.int .u64 (n64 (DR x y)), .bool true]) ∧ Below w.heap.size w w' :=
 fS 93 211 _ _ _ w (by decide) (by decide) (fun _ => by kernel_rfl) (fun _ => by kernel_rfl) (fun w => qC x y w)
theorem xW (x y : BitVec 64) (w : World) : Calls prog 141 #[.int .i64 83, .int .u64 (n64 x), .int .u64 (n64 y)] w fun e w' => e = .returned (.tuple #[.int .u64 (n64 (wid (DQ (wid x) (wid y)))), .bool true]) ∧ Below w.heap.size w w' :=
 fT 83 212 x y _ w (by decide) (by decide) (fun _ => by kernel_rfl) (fun _ => by kernel_rfl) (fun w => nY (wid x) (wid y) w)
theorem xV (x y : BitVec 64) (w : World) : Calls prog 141 #[.int .i64 94, .int .u64 (n64 x), .int .u64 (n64 y)] w fun e w' => e = .returned (.tuple #[.int .u64 (n64 (DQ x y)), .bool true]) ∧ Below w.heap.size w w' :=
 fS 94 212 _ _ _ w (by decide) (by decide) (fun _ => by kernel_rfl) (fun _ => by kernel_rfl) (fun w => nY x y w)
theorem qE (x y : BitVec 64) (w : World) : Calls prog 141 #[.int .i64 84, .int .u64 (n64 x), .int .u64 (n64 y)] w fun e w' => e = .returned (.tuple #[.int .u64 (n64 (wid (EB (wid x) (wid y)))), .bool true]) ∧ Below w.heap.size w w' :=
 fT 84 213 x y _ w (by decide) (by decide) (fun _ => by kernel_rfl) (fun _ => by kernel_rfl) (fun w => kO (wid x) (wid y) w)
theorem qD (x y : BitVec 64) (w : World) : Calls prog 141 #[.int .i64 95, .int .u64 (n64 x), .int .u64 (n64 y)] w fun e w' => e = .returned (.tuple #[.int .u64 (n64 (EB x y)), .bool true]) ∧ Below w.heap.size w w' :=
 fS 95 213 _ _ _ w (by decide) (by decide) (fun _ => by kernel_rfl) (fun _ => by kernel_rfl) (fun w => kO x y w)
theorem oN (x y : BitVec 64) (w : World) : Calls prog 141 #[.int .i64 85, .int .u64 (n64 x), .int .u64 (n64 y)] w fun e w' => e = .returned (.tuple #[.int .u64 (n64 (wid (EA (wid x) (wid y)))), .bool true]) ∧ Below w.heap.size w w' :=
 fT 85 214 x y _ w (by decide) (by decide) (fun _ => by kernel_rfl) (fun _ => by kernel_rfl) (fun w => jI (wid x) (wid y) w)
theorem oM (x y : BitVec 64) (w : World) : Calls prog 141 #[.int .i64 96, .int .u64 (n64 x), .int .u64 (n64 y)] w fun e w' => e = .returned (.tuple #[.int .u64 (n64 (EA x y)), .bool true]) ∧ Below w.heap.size w w' :=
 fS 96 214 _ _ _ w (by decide) (by decide) (fun _ => by kernel_rfl) (fun _ => by kernel_rfl) (fun w => jI x y w)
def bb (x : BitVec 64) (j : Nat) : BitVec 64 := BitVec.ofNat 64 (x.toNat / 2 ^ j % 2)
theorem YU (x : BitVec 64) (j : Nat) : n64 (bb x j) = bt x.toNat j := by
 unfold n64 bb bt; rw [ZqR]; omega
theorem zR (x : BitVec 64) (j : Nat) (z : Int) (hz : z = (j : Int)) (hj : j < 64) (w : World) : Calls prog 159 #[.int .u64 (n64 x), .int .i64 z] w fun e w' => e = .returned (.int .u64 (n64 (bb x j))) ∧ w' = w := by
 subst hz
 have hx := bF x
 have hl : (j : Int) < 64 := by omega
 go_enter func159, ntmps159
 go_wp2
 go_ret
 exact ⟨cH ((NR x j).trans (YU x j).symm), rfl⟩

theorem jv_bb (x : BitVec 64) (lo k : Nat) (hk : k < 64) : jv (x.toNat / 2 ^ lo) k ||| (bb x (lo + k) <<< k) = jv (x.toNat / 2 ^ lo) (k + 1) := by
 rw [← TL _ _ hk]; unfold bb; rw [Nat.div_div_eq_div_mul, ← Nat.pow_add]

theorem NS (x : BitVec 64) (hi lo : Nat) (h1 : lo ≤ hi) (h2 : hi ≤ 63) (w : World) : Calls prog 132 #[.int .u64 (n64 x), .int .i64 (hi : Int), .int .i64 (lo : Int)] w fun e w' => e = .returned (.int .u64 (n64 (jv (x.toNat / 2 ^ lo) (hi + 1 - lo)))) ∧ w' = w := by
 have g1 : (lo : Int) ≤ (hi : Int) := by omega
 have g2 : (hi : Int) ≤ 63 := by omega
 have g3 : (0 : Int) ≤ (lo : Int) := by omega
 have d1 : decide (hi < lo) = false := decide_eq_false (by omega)
 go_enter func132, ntmps132
 go_wp2
 go_loopw [7, 24] (fun v i wr => ∃ k : Nat, k ≤ hi + 1 - lo ∧ i = .int .i64 k ∧ v = .int .u64 (n64 (jv (x.toNat / 2 ^ lo) k)) ∧ wr = w) (fun _ i _ => 64 - (intOf i).toNat)
 case atStart => exact ⟨0, Nat.zero_le _, rfl, by unfold jv; simp [Nat.mod_one]; rfl, rfl⟩
 case round =>
  obtain ⟨k, hk, rfl, rfl, rfl⟩ := hrel
  by_cases hlt : k < hi + 1 - lo
  ·have hl2 : (k : Int) < (hi : Int) - (lo : Int) + 1 := by omega
   have hl3 : (k : Int) < 64 := by omega
   have HJ : Hid (jv (x.toNat / 2 ^ lo) k ||| (bb x (lo + k) <<< k) = jv (x.toNat / 2 ^ lo) (k + 1)) := jv_bb x lo k (by omega)
   go_wp2_with (go_at_call 159; refine (zR x (lo + k) _ (by omega) (by omega) _).mono ?_; rintro e w' ⟨rfl, rfl⟩)
   go_roundw
   case rel => exact ⟨k + 1, by omega, by go_num, by rw [gY, hU, HJ.out], trivial⟩
   case measure => simp [intOf]; omega
  ·have hl2 : (hi : Int) - (lo : Int) + 1 ≤ (k : Int) := by omega
   have hkn : k = hi + 1 - lo := by omega
   have HK := hid hkn
   clear hkn
   go_wp2
   go_ret
   exact ⟨cH (by rw [HK.out]), rfl⟩

/-! Extend -/
theorem YH (x : BitVec 64) (n k : Nat) (hn0 : 0 < n) (hk : k < 64) : jv (wdn x.toNat n) k ||| (bb x (min k (n - 1)) <<< k) = jv (wdn x.toNat n) (k + 1) := by
 rw [← TL _ _ hk]
 have h := SP x.toNat n k hk
 have e : wdn x.toNat n / 2 ^ k % 2 = x.toNat / 2 ^ (min k (n - 1)) % 2 := by
  unfold bt at h
  by_cases hl : k < n
  ·rw [if_pos hl] at h; rw [Nat.min_eq_left (by omega)]; omega
  ·rw [if_neg hl] at h; rw [Nat.min_eq_right (by omega)]; omega
 unfold bb; rw [e]

theorem CR (x : BitVec 64) (n : Nat) (h1 : 0 < n) (h2 : n < 64) (w : World) : Calls prog 126 #[.int .u64 (n64 x), .int .i64 (n : Int)] w fun e w' => e = .returned (.int .u64 (n64 (jv (wdn x.toNat n) 64))) ∧ w' = w := by
 have g1 : (0 : Int) < (n : Int) := by omega
 have g2 : (n : Int) < 64 := by omega
 have d1 : decide (n = 0) = false := decide_eq_false (by omega)
 go_enter func126, ntmps126
 go_wp2
 go_loopw [5, 12] (fun v i wr => ∃ k : Nat, k ≤ 64 ∧ i = .int .i64 k ∧ v = .int .u64 (n64 (jv (wdn x.toNat n) k)) ∧ wr = w) (fun _ i _ => 64 - (intOf i).toNat)
 case atStart => exact ⟨0, Nat.zero_le _, rfl, by unfold jv; simp [Nat.mod_one]; rfl, rfl⟩
 case round =>
  obtain ⟨k, hk, rfl, rfl, rfl⟩ := hrel
  by_cases hlt : k < 64
  ·have hl3 : (k : Int) < 64 := by omega
   have HJ : Hid (jv (wdn x.toNat n) k ||| (bb x (min k (n - 1)) <<< k) = jv (wdn x.toNat n) (k + 1)) := YH x n k h1 hlt
   by_cases hm : k ≤ n - 1
   all_goals
    have hm2 : (if k ≤ n - 1 then (k : Int) ≤ (n : Int) - 1 else (n : Int) - 1 < (k : Int)) := by split <;> omega
    simp only [hm, if_true, if_false] at hm2
    clear hm
    go_wp2_with (go_at_call 159; refine (zR x (min k (n - 1)) _ (by omega) (by omega) _).mono ?_; rintro e w' ⟨rfl, rfl⟩)
    go_roundw
    case rel => exact ⟨k + 1, by omega, by go_num, by rw [gY, hU, HJ.out], trivial⟩
    case measure => simp [intOf]; omega
  ·have hl2 : (64 : Int) ≤ (k : Int) := by omega
   have hkn : k = 64 := by omega
   subst hkn
   go_wp2
   go_ret
   exact ⟨rfl, rfl⟩

theorem CQ (x : BitVec 64) (n : Int) (h : 64 ≤ n) (w : World) : Calls prog 126 #[.int .u64 (n64 x), .int .i64 n] w fun e w' => e = .returned (.int .u64 (n64 x)) ∧ w' = w := by
 have h0 : 0 < n := by omega
 go_enter func126, ntmps126
 go_wp2
 go_ret
 exact ⟨rfl, rfl⟩
theorem jw64 (R : Nat) : jv (wdn R 64) 64 = BitVec.ofNat 64 R := by
 apply ZqT
 rw [vS _ _ (by decide), ZqR]
 unfold wdn; simp
theorem RR (x : BitVec 64) : DT 64 (x.toNat % 2 ^ 64) = x.toInt := by
 rw [ZqV x.isLt]
 unfold DT; rw [BitVec.toInt_eq_toNat_cond]; have := x.isLt; simp only [Nat.reduceSub, Nat.reducePow] at *; split <;> split <;> omega
theorem QD (x : BitVec 64) : BitVec.ofNat 32 (x.toNat % 2 ^ 32) = x.setWidth 32 := by
 apply ZqT; simp
theorem fY (x : BitVec 64) : BitVec.ofNat 64 (x.toNat % 2 ^ 64) = x := by
 apply ZqT; rw [ZqR, Nat.mod_mod, ZqV x.isLt]
theorem sx (x : BitVec 64) : (BitVec.ofNat 32 (x.toNat % 2 ^ 32)).signExtend 64 = wid x := by rw [QD]; rfl
theorem AU (c : Bool) (x y : BitVec 64) : BitVec.ofNat 64 (JZ c (x.toNat % 2 ^ 64) (y.toNat % 2 ^ 64)) = if c then y else x := by
 cases c
 ·exact fY x
 ·exact fY y
def mW (i : Nat) (x y : BitVec 64) : BitVec 64 := ([wid (wid y), wid (wid x + wid y), wid (wid x ^^^ wid y), wid (wid x &&& wid y), wid (wid x ||| wid y), wid (DR (wid x) (wid y)), wid (DQ (wid x) (wid y)), wid (EB (wid x) (wid y)), wid (EA (wid x) (wid y))] : List (BitVec 64)).getD i 0#64
def mD (i : Nat) (x y : BitVec 64) : BitVec 64 := ([y, x + y, x ^^^ y, x &&& y, x ||| y, DR x y, DQ x y, EB x y, EA x y] : List (BitVec 64)).getD i 0#64
theorem ofx (n A B : Nat) : BitVec.ofNat n (A ^^^ B) = BitVec.ofNat n A ^^^ BitVec.ofNat n B := by
 apply ZqT; rw [BitVec.toNat_xor, ZqR, ZqR, ZqR, Nat.xor_mod_two_pow]
theorem ofa (n A B : Nat) : BitVec.ofNat n (A &&& B) = BitVec.ofNat n A &&& BitVec.ofNat n B := by
 apply ZqT; rw [BitVec.toNat_and, ZqR, ZqR, ZqR, Nat.and_mod_two_pow]
theorem ofo (n A B : Nat) : BitVec.ofNat n (A ||| B) = BitVec.ofNat n A ||| BitVec.ofNat n B := by
 apply ZqT; rw [BitVec.toNat_or, ZqR, ZqR, ZqR, Nat.or_mod_two_pow]
theorem ltu (x y : BitVec 64) : decide (x.toNat < y.toNat) = uLt x y := by unfold uLt n64; rw [Bool.eq_iff_iff]; simp only [decide_eq_true_eq]; omega
theorem mD_ref (i : Nat) (hi : i < 9) (x y : BitVec 64) : jv (wdn (aR i 64 (x.toNat % 2 ^ 64) (y.toNat % 2 ^ 64)) 64) 64 = mD i x y := by
 rw [jw64]
 match i, hi with
 | 0, _ => exact fY y
 | 1, _ => show BitVec.ofNat 64 (x.toNat % 2 ^ 64 + y.toNat % 2 ^ 64 + 0) = x + y; rw [Nat.add_zero, BitVec.ofNat_add, fY, fY]
 | 2, _ => show BitVec.ofNat 64 (x.toNat % 2 ^ 64 ^^^ y.toNat % 2 ^ 64) = x ^^^ y; rw [ofx, fY, fY]
 | 3, _ => show BitVec.ofNat 64 (x.toNat % 2 ^ 64 &&& y.toNat % 2 ^ 64) = x &&& y; rw [ofa, fY, fY]
 | 4, _ => show BitVec.ofNat 64 (x.toNat % 2 ^ 64 ||| y.toNat % 2 ^ 64) = x ||| y; rw [ofo, fY, fY]
 | 5, _ => refine (AU _ x y).trans ?_; rw [RR, RR]; rfl
 | 6, _ => refine (AU _ x y).trans ?_; rw [RR, RR]; rfl
 | 7, _ => refine (AU _ x y).trans ?_; rw [ZqV x.isLt, ZqV y.isLt, ltu]; rfl
 | 8, _ => refine (AU _ x y).trans ?_; rw [ZqV x.isLt, ZqV y.isLt, ltu]; rfl
theorem FA (i : Nat) (hi : i < 9) (x y : BitVec 64) (w : World) : Calls prog 141 #[.int .i64 (77 + (i : Int)), .int .u64 (n64 x), .int .u64 (n64 y)] w fun e w' => e = .returned (.tuple #[.int .u64 (n64 (mW i x y)), .bool true]) ∧ Below w.heap.size w w' := by
 match i, hi with
 | 0, _ => exact PT x y w
 | 1, _ => exact YK x y w
 | 2, _ => exact YO x y w
 | 3, _ => exact YM x y w
 | 4, _ => exact m_orW x y w
 | 5, _ => exact CZ x y w
 | 6, _ => exact xW x y w
 | 7, _ => exact qE x y w
 | 8, _ => exact oN x y w
theorem EZ (i : Nat) (hi : i < 9) (x y : BitVec 64) (w : World) : Calls prog 141 #[.int .i64 (88 + (i : Int)), .int .u64 (n64 x), .int .u64 (n64 y)] w fun e w' => e = .returned (.tuple #[.int .u64 (n64 (mD i x y)), .bool true]) ∧ Below w.heap.size w w' := by
 match i, hi with
 | 0, _ => exact PS x y w
 | 1, _ => exact YJ x y w
 | 2, _ => exact YN x y w
 | 3, _ => exact YL x y w
 | 4, _ => exact m_orD x y w
 | 5, _ => exact CY x y w
 | 6, _ => exact xV x y w
 | 7, _ => exact qD x y w
 | 8, _ => exact oM x y w
end Go.Proofs.YtddlmenfcbjoaaaGreatDoor
