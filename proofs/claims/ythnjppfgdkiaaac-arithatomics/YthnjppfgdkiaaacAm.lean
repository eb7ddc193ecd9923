/-
  The law's own 'amo', at each number.
-/
import Derived.Test.YthnjppfgdkiaaacAmo
namespace Go.Proofs.Ythnjppfgdkiaaac
open Go.ChangeShapes Go.WideShapes Go.ChangeAt Go.RowKit
theorem am_of (k : Int) (a b r : Int) (w : World)
    (hc : ∀ w, Calls Try.prog 14 #[.int .i64 k, .int .u64 a, .int .u64 b] w fun e w' => e = .returned (.tuple #[.int .u64 r, .bool true]) ∧ Below w.heap.size w w') :
    Calls Try.prog 7 #[.int .i64 k, .int .u64 a, .int .u64 b] w fun e w' => e = .returned (.int .u64 r) ∧ Below w.heap.size w w' := by
  go_enter Try.func7, Try.ntmps7
  go_wp2_with fail
  refine (hc _).mono ?_
  rintro e w' ⟨rfl, hb⟩
  go_wp2_with fail
  go_ret
  exact ⟨rfl, hb⟩
theorem am_swapW (x y r : BitVec 64) (h : wid (wid y) = r) (w : World) : Calls Try.prog 7 #[.int .i64 77, .int .u64 (n64 x), .int .u64 (n64 y)] w fun e w' => e = .returned (.int .u64 (n64 r)) ∧ Below w.heap.size w w' := by
  subst h; exact am_of 77 _ _ _ w (fun w => m_swapW x y w)
theorem am_swapD (x y r : BitVec 64) (h : y = r) (w : World) : Calls Try.prog 7 #[.int .i64 88, .int .u64 (n64 x), .int .u64 (n64 y)] w fun e w' => e = .returned (.int .u64 (n64 r)) ∧ Below w.heap.size w w' := by
  subst h; exact am_of 88 _ _ _ w (fun w => m_swapD x y w)
theorem am_addW (x y r : BitVec 64) (h : wid (wid x + wid y) = r) (w : World) : Calls Try.prog 7 #[.int .i64 78, .int .u64 (n64 x), .int .u64 (n64 y)] w fun e w' => e = .returned (.int .u64 (n64 r)) ∧ Below w.heap.size w w' := by
  subst h; exact am_of 78 _ _ _ w (fun w => m_addW x y w)
theorem am_addD (x y r : BitVec 64) (h : x + y = r) (w : World) : Calls Try.prog 7 #[.int .i64 89, .int .u64 (n64 x), .int .u64 (n64 y)] w fun e w' => e = .returned (.int .u64 (n64 r)) ∧ Below w.heap.size w w' := by
  subst h; exact am_of 89 _ _ _ w (fun w => m_addD x y w)
theorem am_xorW (x y r : BitVec 64) (h : wid (wid x ^^^ wid y) = r) (w : World) : Calls Try.prog 7 #[.int .i64 79, .int .u64 (n64 x), .int .u64 (n64 y)] w fun e w' => e = .returned (.int .u64 (n64 r)) ∧ Below w.heap.size w w' := by
  subst h; exact am_of 79 _ _ _ w (fun w => m_xorW x y w)
theorem am_xorD (x y r : BitVec 64) (h : x ^^^ y = r) (w : World) : Calls Try.prog 7 #[.int .i64 90, .int .u64 (n64 x), .int .u64 (n64 y)] w fun e w' => e = .returned (.int .u64 (n64 r)) ∧ Below w.heap.size w w' := by
  subst h; exact am_of 90 _ _ _ w (fun w => m_xorD x y w)
theorem am_andW (x y r : BitVec 64) (h : wid (wid x &&& wid y) = r) (w : World) : Calls Try.prog 7 #[.int .i64 80, .int .u64 (n64 x), .int .u64 (n64 y)] w fun e w' => e = .returned (.int .u64 (n64 r)) ∧ Below w.heap.size w w' := by
  subst h; exact am_of 80 _ _ _ w (fun w => m_andW x y w)
theorem am_andD (x y r : BitVec 64) (h : x &&& y = r) (w : World) : Calls Try.prog 7 #[.int .i64 91, .int .u64 (n64 x), .int .u64 (n64 y)] w fun e w' => e = .returned (.int .u64 (n64 r)) ∧ Below w.heap.size w w' := by
  subst h; exact am_of 91 _ _ _ w (fun w => m_andD x y w)
theorem am_orW (x y r : BitVec 64) (h : wid (wid x ||| wid y) = r) (w : World) : Calls Try.prog 7 #[.int .i64 81, .int .u64 (n64 x), .int .u64 (n64 y)] w fun e w' => e = .returned (.int .u64 (n64 r)) ∧ Below w.heap.size w w' := by
  subst h; exact am_of 81 _ _ _ w (fun w => m_orW x y w)
theorem am_orD (x y r : BitVec 64) (h : x ||| y = r) (w : World) : Calls Try.prog 7 #[.int .i64 92, .int .u64 (n64 x), .int .u64 (n64 y)] w fun e w' => e = .returned (.int .u64 (n64 r)) ∧ Below w.heap.size w w' := by
  subst h; exact am_of 92 _ _ _ w (fun w => m_orD x y w)
theorem am_lesserW (x y r : BitVec 64) (h : wid (sMin (wid x) (wid y)) = r) (w : World) : Calls Try.prog 7 #[.int .i64 82, .int .u64 (n64 x), .int .u64 (n64 y)] w fun e w' => e = .returned (.int .u64 (n64 r)) ∧ Below w.heap.size w w' := by
  subst h; exact am_of 82 _ _ _ w (fun w => m_lesserW x y w)
theorem am_lesserD (x y r : BitVec 64) (h : sMin x y = r) (w : World) : Calls Try.prog 7 #[.int .i64 93, .int .u64 (n64 x), .int .u64 (n64 y)] w fun e w' => e = .returned (.int .u64 (n64 r)) ∧ Below w.heap.size w w' := by
  subst h; exact am_of 93 _ _ _ w (fun w => m_lesserD x y w)
theorem am_greaterW (x y r : BitVec 64) (h : wid (sMax (wid x) (wid y)) = r) (w : World) : Calls Try.prog 7 #[.int .i64 83, .int .u64 (n64 x), .int .u64 (n64 y)] w fun e w' => e = .returned (.int .u64 (n64 r)) ∧ Below w.heap.size w w' := by
  subst h; exact am_of 83 _ _ _ w (fun w => m_greaterW x y w)
theorem am_greaterD (x y r : BitVec 64) (h : sMax x y = r) (w : World) : Calls Try.prog 7 #[.int .i64 94, .int .u64 (n64 x), .int .u64 (n64 y)] w fun e w' => e = .returned (.int .u64 (n64 r)) ∧ Below w.heap.size w w' := by
  subst h; exact am_of 94 _ _ _ w (fun w => m_greaterD x y w)
theorem am_lesserPlainW (x y r : BitVec 64) (h : wid (uMin (wid x) (wid y)) = r) (w : World) : Calls Try.prog 7 #[.int .i64 84, .int .u64 (n64 x), .int .u64 (n64 y)] w fun e w' => e = .returned (.int .u64 (n64 r)) ∧ Below w.heap.size w w' := by
  subst h; exact am_of 84 _ _ _ w (fun w => m_lesserPlainW x y w)
theorem am_lesserPlainD (x y r : BitVec 64) (h : uMin x y = r) (w : World) : Calls Try.prog 7 #[.int .i64 95, .int .u64 (n64 x), .int .u64 (n64 y)] w fun e w' => e = .returned (.int .u64 (n64 r)) ∧ Below w.heap.size w w' := by
  subst h; exact am_of 95 _ _ _ w (fun w => m_lesserPlainD x y w)
theorem am_greaterPlainW (x y r : BitVec 64) (h : wid (uMax (wid x) (wid y)) = r) (w : World) : Calls Try.prog 7 #[.int .i64 85, .int .u64 (n64 x), .int .u64 (n64 y)] w fun e w' => e = .returned (.int .u64 (n64 r)) ∧ Below w.heap.size w w' := by
  subst h; exact am_of 85 _ _ _ w (fun w => m_greaterPlainW x y w)
theorem am_greaterPlainD (x y r : BitVec 64) (h : uMax x y = r) (w : World) : Calls Try.prog 7 #[.int .i64 96, .int .u64 (n64 x), .int .u64 (n64 y)] w fun e w' => e = .returned (.int .u64 (n64 r)) ∧ Below w.heap.size w w' := by
  subst h; exact am_of 96 _ _ _ w (fun w => m_greaterPlainD x y w)
end Go.Proofs.Ythnjppfgdkiaaac
