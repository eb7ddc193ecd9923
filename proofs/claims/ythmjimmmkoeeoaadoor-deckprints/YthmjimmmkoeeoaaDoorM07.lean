/-
  Db Sa.
-/
import Derived.Test.YthmjimmmkoeeoaaDoorM06
import Derived.Lib.ItoaMem
import Derived.Lib.Join
import Derived.Test.YthmjimmmkoeeoaaDoorM01
namespace Go.Proofs.YthmjimmmkoeeoaaDoor
set_option linter.unusedVariables false
open Go.ChangeShapes Go.WideShapes Go.ChangeAt Go.RowKit Go.Deep
abbrev Tx := List UInt8
/-- A text as a string. -/
def tS (l : Tx) : ByteArray := ⟨l.toArray⟩
theorem tS_size (l : Tx) : (tS l).size = l.length := by simp [tS, ByteArray.size]
theorem tS_list (l : Tx) : (tS l).data.toList = l := by simp [tS]
theorem tS_append (a b : Tx) : tS a ++ tS b = tS (a ++ b) := by
  apply ByteArray.ext; rw [ByteArray.data_append]; simp [tS]
theorem tS_inj {a b : Tx} : tS a = tS b ↔ a = b := ⟨fun h => by rw [← tS_list a, h, tS_list], fun h => by rw [h]⟩
theorem tS_nil : tS [] = ⟨#[]⟩ := rfl
/-- A hex digit; hex digits without leading zeros. -/
def hd (a : Nat) : UInt8 := if a < 10 then UInt8.ofNat (48 + a) else UInt8.ofNat (87 + a)
def hxL (n : Nat) : Tx := if h : n < 16 then [hd n] else hxL (n / 16) ++ [hd (n % 16)]
termination_by n
decreasing_by omega
theorem hxL_one {n : Nat} (h : n < 16) : hxL n = [hd n] := by rw [hxL, dif_pos h]
theorem hxL_more {n : Nat} (h : ¬ n < 16) : hxL n = hxL (n / 16) ++ [hd (n % 16)] := by rw [hxL, dif_neg h]
theorem hxL_len (n k : Nat) (hk : n < 16 ^ (k + 1)) : (hxL n).length ≤ k + 1 := by
  induction k generalizing n with
  | zero => rw [hxL_one (by simpa using hk)]; simp
  | succ k ih =>
    by_cases h : n < 16
    · rw [hxL_one h]; simp
    · rw [hxL_more h]
      have := ih (n / 16) (by rw [Nat.div_lt_iff_lt_mul (by omega)]; rw [Nat.pow_succ] at hk; exact hk)
      simp; omega
theorem hxL_64 (v : BitVec 64) : (hxL v.toNat).length ≤ 16 := hxL_len _ 15 (by have := v.isLt; simpa using this)
/-- A value as texts say it. -/
def hxT (v : BitVec 64) : Tx := [48, 120] ++ hxL v.toNat
theorem hxT_len (v : BitVec 64) : (hxT v).length ≤ 18 := by have := hxL_64 v; simp [hxT]; omega
def dcL (n : Nat) : Tx := Lib.decDigits n
theorem dcL_one {n : Nat} (h : n < 10) : dcL n = [UInt8.ofNat (48 + n)] := by unfold dcL; rw [Lib.decDigits, dif_pos h]
theorem dcL_more {n : Nat} (h : ¬ n < 10) : dcL n = dcL (n / 10) ++ [UInt8.ofNat (48 + n % 10)] := by unfold dcL; rw [Lib.decDigits, dif_neg h]
theorem dcL_len (n k : Nat) (hk : n < 10 ^ (k + 1)) : (dcL n).length ≤ k + 1 := by
  induction k generalizing n with
  | zero => rw [dcL_one (by simpa using hk)]; simp
  | succ k ih =>
    by_cases h : n < 10
    · rw [dcL_one h]; simp
    · rw [dcL_more h]
      have := ih (n / 10) (by rw [Nat.div_lt_iff_lt_mul (by omega)]; rw [Nat.pow_succ] at hk; exact hk)
      simp; omega
/-- Words with one space between two. -/
def jw (ws : List Tx) : Tx := Lib.join ws [32]
theorem jw_one (a : Tx) : jw [a] = a := Lib.join_one _ _
theorem jw_cons (a b : Tx) (r : List Tx) : jw (a :: b :: r) = a ++ [32] ++ jw (b :: r) := by
  unfold jw; rw [Lib.join_cons, Lib.join_cons]; simp [Lib.joinTail]
/-- A list's one element, or none. -/
def oneL (l : Tx) : List Tx := if l = [] then [] else [l]
theorem oneL_nil : oneL [] = [] := rfl
theorem oneL_some {l : Tx} (h : l ≠ []) : oneL l = [l] := if_neg h
/-- Lines, each with the byte 10. -/
def lnT (L : List Tx) : Tx := L.flatMap (· ++ [10])
theorem lnT_nil : lnT [] = [] := rfl
theorem lnT_one (a : Tx) : lnT [a] = a ++ [10] := by simp [lnT]
theorem lnT_cons (a : Tx) (r : List Tx) : lnT (a :: r) = a ++ [10] ++ lnT r := by simp [lnT]
theorem lnT_append (a b : List Tx) : lnT (a ++ b) = lnT a ++ lnT b := by simp [lnT]
/-- The names of registers and of the CSRs that are kept. -/
def rgN : List Tx := [[122, 101, 114, 111], [114, 97], [115, 112], [103, 112], [116, 112], [116, 48], [116, 49], [116, 50], [115, 48], [115, 49], [97, 48], [97, 49], [97, 50], [97, 51], [97, 52], [97, 53], [97, 54], [97, 55], [115, 50], [115, 51], [115, 52], [115, 53], [115, 54], [115, 55], [115, 56], [115, 57], [115, 49, 48], [115, 49, 49], [116, 51], [116, 52], [116, 53], [116, 54]]
def csN : List Tx := [[109, 115, 116, 97, 116, 117, 115], [109, 116, 118, 101, 99], [109, 105, 101], [109, 99, 111, 117, 110, 116, 101, 114, 101, 110], [109, 99, 111, 117, 110, 116, 105, 110, 104, 105, 98, 105, 116], [109, 101, 110, 118, 99, 102, 103], [109, 115, 99, 114, 97, 116, 99, 104], [109, 101, 112, 99], [109, 99, 97, 117, 115, 101], [109, 116, 118, 97, 108], [109, 99, 121, 99, 108, 101], [109, 105, 110, 115, 116, 114, 101, 116]]
/-- Where each of those CSRs lies among the Cpu's twelve registers. -/
def csAt (k : Cp) (i : Nat) : BitVec 64 := k.s i
/-- The lines of a Cpu. -/
def pcT (k : Cp) : Tx := jw [[112, 99], hxT k.pc]
def mdT (k : Cp) : Tx := jw [[109, 111, 100, 101], if k.md = 3 then [109] else [117]]
def wtT (k : Cp) : Tx := if k.wt then [119, 97, 105, 116, 105, 110, 103] else []
def rgT (k : Cp) (n : Nat) : Tx := if k.x n = 0#64 then [] else jw [[114, 101, 103], rgN.getD n [], hxT (k.x n)]
def csT (k : Cp) (i : Nat) : Tx := if k.s i = (PR cz).s i then [] else jw [[99, 115, 114], csN.getD i [], hxT (k.s i)]
def enT (k : Cp) (i : Nat) : Tx := if k.c i = 0#8 ∧ k.a i = 0#64 then [] else jw [[112, 109, 112], dcL i, hxT ((k.c i).setWidth 64), hxT (k.a i)]
def rsT (k : Cp) : Tx := if k.rv then jw [[114, 101, 115], hxT k.ra, dcL k.rs.toNat] else []
def cpuT (k : Cp) (p : Nat) : Tx :=
  if p = 0 then pcT k else if p = 1 then mdT k else if p = 2 then wtT k else if p < 35 then rgT k (p - 3) else if p < 47 then csT k (p - 35) else if p < 63 then enT k (p - 47) else if p = 63 then rsT k else []
def cpuU (k : Cp) (n : Nat) : List Tx := (List.range n).flatMap fun p => oneL (cpuT k p)
theorem cpuU_zero (k : Cp) : cpuU k 0 = [] := rfl
theorem cpuU_succ (k : Cp) (n : Nat) : cpuU k (n + 1) = cpuU k n ++ oneL (cpuT k n) := by simp [cpuU, List.range_succ]
def cpuLs (k : Cp) : List Tx := cpuU k 64
/-- Bytes as hex digits. -/
def b2 (z : Int) : Tx := [hd (z.toNat / 16), hd (z.toNat % 16)]
def hxB (d : List Int) : Tx := d.flatMap b2
theorem hxB_nil : hxB [] = [] := rfl
theorem hxB_snoc (d : List Int) (z : Int) : hxB (d ++ [z]) = hxB d ++ b2 z := by simp [hxB]
theorem hxB_len (d : List Int) : (hxB d).length = 2 * d.length := by
  induction d with
  | nil => rfl
  | cons z d ih => simp only [hxB, List.flatMap_cons, List.length_append, List.length_cons] at *; rw [ih]; simp [b2]; omega
/-- A part. -/
structure Pt where
  a : BitVec 64
  s : BitVec 64
  f : Int
  d : List Int
def flT (f : Int) : Tx := if f = 0 then [45] else if f = 1 then [114] else if f = 2 then [119] else if f = 3 then [114, 119] else if f = 4 then [120] else if f = 5 then [114, 120] else if f = 6 then [119, 120] else [114, 119, 120]
def ptH (p : Pt) : Tx := jw [[112, 97, 114, 116], hxT p.a, dcL p.s.toNat, flT p.f]
def dtT (d : List Int) : Tx := jw [[100, 97, 116, 97], hxB d]
def dtU : Nat → List Int → List Tx
  | 0, _ => []
  | n + 1, d => if d = [] then [] else dtT (d.take 32) :: dtU n (d.drop 32)
def dtLs (d : List Int) : List Tx := dtU d.length d
theorem dtU_more (n : Nat) (d : List Int) (h : d.length ≤ n) : dtU n d = dtU d.length d := by
  induction n using Nat.strongRecOn generalizing d with
  | _ n ih =>
    cases n with
    | zero =>
      have h0 : d = [] := List.eq_nil_of_length_eq_zero (by omega)
      rw [h0]; rfl
    | succ n =>
      by_cases h0 : d = []
      · subst h0; simp [dtU]
      · obtain ⟨m, hm⟩ : ∃ m, d.length = m + 1 := ⟨d.length - 1, by have := List.length_pos_iff.2 h0; omega⟩
        rw [hm, dtU, dtU, if_neg h0, if_neg h0]
        congr 1
        have hl : (d.drop 32).length ≤ m := by rw [List.length_drop]; omega
        rw [ih n (by omega) _ (by omega)]
        by_cases hmn : m = n
        · rw [hmn, ih n (by omega) _ (by rw [← hmn]; exact hl)]
        · rw [ih m (by omega) _ hl]
theorem dtLs_nil : dtLs [] = [] := rfl
theorem dtLs_more {d : List Int} (h : d ≠ []) : dtLs d = dtT (d.take 32) :: dtLs (d.drop 32) := by
  unfold dtLs
  obtain ⟨m, hm⟩ : ∃ m, d.length = m + 1 := ⟨d.length - 1, by have := List.length_pos_iff.2 h; omega⟩
  rw [hm, dtU, if_neg h, dtU_more m _ (by rw [List.length_drop]; omega)]
def ptLs (p : Pt) : List Tx := ptH p :: dtLs p.d
/-- A world. -/
structure Wd where
  t : Bool
  e : Bool
  s : Bool
  i : List Int
/-- What a byte stands as in a string. -/
def eB (z : Int) : Tx := if z = 34 ∨ z = 92 then [92, UInt8.ofNat z.toNat] else if z = 10 then [92, 110] else if 32 ≤ z ∧ z ≤ 126 then [UInt8.ofNat z.toNat] else [92, 120] ++ b2 z
def qB (d : List Int) : Tx := d.flatMap eB
theorem qB_snoc (d : List Int) (z : Int) : qB (d ++ [z]) = qB d ++ eB z := by simp [qB]
def qT (d : List Int) : Tx := [34] ++ qB d ++ [34]
theorem eB_len (z : Int) : (eB z).length ≤ 4 := by unfold eB; repeat' split
                                                   all_goals simp [b2]
theorem qB_len (d : List Int) : (qB d).length ≤ 4 * d.length := by
  induction d with
  | nil => simp [qB]
  | cons z d ih => have := eB_len z; simp only [qB, List.flatMap_cons, List.length_append, List.length_cons] at *; omega
theorem qT_len (d : List Int) : (qT d).length ≤ 4 * d.length + 2 := by have := qB_len d; simp [qT]; omega
def wdW (w : Wd) : List Tx := (if w.t then [[116, 105, 99, 107]] else []) ++ (if w.e then [[101, 120, 116]] else []) ++ (if w.s then [[115, 111, 102, 116]] else []) ++ (if w.i = [] then [] else [[105, 110, 112, 117, 116], qT w.i])
/-- A world's words, each with a space ahead. -/
def wdX (w : Wd) : Tx := (if w.t then [32, 116, 105, 99, 107] else []) ++ (if w.e then [32, 101, 120, 116] else []) ++ (if w.s then [32, 115, 111, 102, 116] else []) ++ (if w.i = [] then [] else [32, 105, 110, 112, 117, 116, 32] ++ qT w.i)
theorem jw_tail (a : Tx) (r : List Tx) : jw (a :: r) = a ++ r.flatMap ([32] ++ ·) := by
  unfold jw; rw [Lib.join_cons]; simp [Lib.joinTail, List.flatMap]
theorem wdX_eq (w : Wd) : (wdW w).flatMap ([32] ++ ·) = wdX w := by
  unfold wdW wdX
  cases w.t <;> cases w.e <;> cases w.s <;> by_cases h : w.i = [] <;> simp [h]
/-- Are two worlds alike? -/
def alB (a b : Wd) : Bool := a.t == b.t && a.e == b.e && a.s == b.s && a.i == b.i
theorem alB_iff {a b : Wd} : alB a b = true ↔ a = b := by
  obtain ⟨a1, a2, a3, a4⟩ := a; obtain ⟨b1, b2, b3, b4⟩ := b
  simp [alB, and_assoc]
/-- How many at the beginning of a list are like x. -/
def runN (x : Wd) : List Wd → Nat
  | [] => 0
  | y :: r => if alB x y then runN x r + 1 else 0
theorem runN_le (x : Wd) (l : List Wd) : runN x l ≤ l.length := by
  induction l with
  | nil => simp [runN]
  | cons y r ih => simp only [runN]; split <;> simp <;> omega
def wdH (n : Nat) (w : Wd) : Tx := (if n = 1 then [115, 116, 101, 112] else [115, 116, 101, 112, 115, 32] ++ dcL n) ++ wdX w
def wdU : Nat → List Wd → List Tx
  | 0, _ => []
  | _ + 1, [] => []
  | n + 1, x :: r => wdH (1 + runN x r) x :: wdU n (r.drop (runN x r))
def wdLs (l : List Wd) : List Tx := wdU l.length l
theorem wdU_more (n : Nat) (l : List Wd) (h : l.length ≤ n) : wdU n l = wdU l.length l := by
  induction n using Nat.strongRecOn generalizing l with
  | _ n ih =>
    cases l with
    | nil => cases n <;> rfl
    | cons x r =>
      cases n with
      | zero => simp at h
      | succ n =>
        have hr : r.length ≤ n := by simpa using h
        show wdU (n + 1) (x :: r) = wdU (r.length + 1) (x :: r)
        rw [wdU, wdU]
        congr 1
        have hl : (r.drop (runN x r)).length ≤ r.length := by rw [List.length_drop]; omega
        rw [ih n (by omega) _ (by omega)]
        by_cases e : r.length = n
        · rw [e, ih n (by omega) _ (by omega)]
        · rw [ih r.length (by omega) _ hl]
theorem wdLs_nil : wdLs [] = [] := rfl
theorem wdLs_more (x : Wd) (r : List Wd) : wdLs (x :: r) = wdH (1 + runN x r) x :: wdLs (r.drop (runN x r)) := by
  show wdU (r.length + 1) (x :: r) = _
  rw [wdU]; unfold wdLs
  rw [wdU_more r.length _ (by rw [List.length_drop]; omega)]
/-- A deck. -/
structure Dk where
  ram : Int
  cpu : Cp
  mt : BitVec 64
  ps : List Pt
  ws : List Wd
def hdLs (D : Dk) : List Tx := [jw [[97, 110, 118, 105, 108], [49]], jw [[114, 97, 109], dcL D.ram.toNat]] ++ (if D.mt = 0#64 then [] else [jw [[109, 116, 105, 109, 101], hxT D.mt]])
def dkLs (D : Dk) : List Tx := hdLs D ++ cpuLs (PR D.cpu) ++ D.ps.flatMap ptLs ++ wdLs D.ws
def dkT (D : Dk) : Tx := lnT (dkLs D)
/-- May a deck be played? -/
def ptV (R : Int) (p : Pt) : Bool := decide ((p.s.toNat : Int) ≤ R) && decide (2147483648 ≤ p.a.toNat) && decide ((p.a.toNat : Int) - 2147483648 ≤ R - p.s.toNat) && decide (p.d.length ≤ p.s.toNat)
def raV (R : Int) : Bool := decide (8 ≤ R) && decide (R ≤ 65536) && decide (R % 8 = 0)
def dkV (D : Dk) : Bool := raV D.ram && decide (D.ps.length ≤ 16) && decide (D.ws.length ≤ 4000) && D.ps.all (ptV D.ram) && D.ws.all (fun w => decide (w.i.length ≤ 64))
def dkF (D : Dk) : Bool := D.ps.all fun p => decide (0 ≤ p.f) && decide (p.f ≤ 7)
/-- What Print answers: the text and the reason. -/
def prT (D : Dk) : Tx × Int := if (dkV D && dkF D) = false then ([], 140) else if (400000 : Int) < (dkT D).length then ([], 4) else (dkT D, 0)
end Go.Proofs.YthmjimmmkoeeoaaDoor
namespace Go.Proofs.YthmjimmmkoeeoaaDoor
set_option linter.unusedVariables false
set_option maxRecDepth 100000
open Go.ChangeShapes Go.WideShapes Go.ChangeAt Go.RowKit Go.Deep
def rgL : List (List UInt8) := [[122, 101, 114, 111], [114, 97], [115, 112], [103, 112], [116, 112], [116, 48], [116, 49], [116, 50], [115, 48], [115, 49], [97, 48], [97, 49], [97, 50], [97, 51], [97, 52], [97, 53], [97, 54], [97, 55], [115, 50], [115, 51], [115, 52], [115, 53], [115, 54], [115, 55], [115, 56], [115, 57], [115, 49, 48], [115, 49, 49], [116, 51], [116, 52], [116, 53], [116, 54]]
/-- The name of register n. -/
def rgS (n : Nat) : ByteArray := ⟨(rgL.getD n []).toArray⟩
def rgTab : Array Value := ((List.range 32).map fun n => Value.string (rgS n)).toArray
theorem rgSize : (Tryd.prog.info? 95).map (·.size) = some rgTab.size := by kernel_rfl
theorem rgOne : rgTab.all (·.oneCell') = true := by kernel_rfl
theorem rgTab_at (n : Nat) (h : n < 32) : rgTab[n]? = some (.string (rgS n)) := by
  unfold rgTab
  simp [h]
theorem registerNames_c (w : World) : Calls Tryd.prog 85 #[] w fun e w' => e = .returned (.agg rgTab) ∧ w' = w.alloc (.cells rgTab 95) := by
  go_enter Tryd.func85, Tryd.ntmps85
  go_wp2_with (first
    | (refine wpList_build_tab (by rfl) 95 _ (by rfl) rgTab (by kernel_rfl) ?_)
    | (refine wpList_store_new (by rfl) 95 _ _ (by rfl) (by rfl) _ rgTab (by rfl) (by rfl) rgSize (by rfl) rgOne ?_))
  exact bodyPost_ret (v := .agg rgTab) (results_cell_row Tryd.results85 _ _ w.heap.size 95 rgTab (0, 0) _ (by rfl) (heap_alloc_last w _) Tryd.underlying95 (by rfl) rgSize) rfl ⟨rfl, rfl⟩
/-- The reference's variable holds the names. -/
def Rg (w : World) : Prop := ∀ n, n < 32 → w.cell? ⟨1, n, none⟩ = some (.string (rgS n))
theorem Rg.lt {w : World} (h : Rg w) : 1 < w.heap.size := World.block_lt_of_cell? w _ (h 0 (by omega))
theorem Rg.later {w w' : World} {B : Nat} (h : Rg w) (b : Below B w w') (hB : 1 < B) : Rg w' := fun j hj => (b.cell (p := ⟨1, j, none⟩) hB).trans (h j hj)
theorem Rg.next {w w' : World} (h : Rg w) (b : Below w.heap.size w w') : Rg w' := h.later b h.lt
theorem rgIdx : ∀ (n : Nat) (h : n < 32) (w : World), (Instr.index 95 (.agg rgTab) (.int .i64 (n : Int))).run Tryd.prog w = .ok (.string (rgS n)) w
  | 0, _, w => by kernel_rfl
  | 1, _, w => by kernel_rfl
  | 2, _, w => by kernel_rfl
  | 3, _, w => by kernel_rfl
  | 4, _, w => by kernel_rfl
  | 5, _, w => by kernel_rfl
  | 6, _, w => by kernel_rfl
  | 7, _, w => by kernel_rfl
  | 8, _, w => by kernel_rfl
  | 9, _, w => by kernel_rfl
  | 10, _, w => by kernel_rfl
  | 11, _, w => by kernel_rfl
  | 12, _, w => by kernel_rfl
  | 13, _, w => by kernel_rfl
  | 14, _, w => by kernel_rfl
  | 15, _, w => by kernel_rfl
  | 16, _, w => by kernel_rfl
  | 17, _, w => by kernel_rfl
  | 18, _, w => by kernel_rfl
  | 19, _, w => by kernel_rfl
  | 20, _, w => by kernel_rfl
  | 21, _, w => by kernel_rfl
  | 22, _, w => by kernel_rfl
  | 23, _, w => by kernel_rfl
  | 24, _, w => by kernel_rfl
  | 25, _, w => by kernel_rfl
  | 26, _, w => by kernel_rfl
  | 27, _, w => by kernel_rfl
  | 28, _, w => by kernel_rfl
  | 29, _, w => by kernel_rfl
  | 30, _, w => by kernel_rfl
  | 31, _, w => by kernel_rfl
  | n + 32, h, _ => absurd h (by omega)
/-- What Reg gives. -/
def regS (n : Int) : ByteArray := if 0 ≤ n ∧ n ≤ 31 then rgS n.toNat else ⟨#[]⟩
theorem reg_c (n : Int) (w : World) : Calls Tryd.prog 74 #[.int .i64 n] w fun e w' => e = .returned (.string (regS n)) ∧ Below w.heap.size w w' := by
  by_cases h : 0 ≤ n ∧ n ≤ 31
  · have e : regS n = rgS n.toNat := if_pos h
    rw [e]
    obtain ⟨h0, h1⟩ := h
    obtain ⟨m, rfl⟩ := Int.eq_ofNat_of_zero_le h0
    rw [Int.toNat_natCast]
    have hm : m < 32 := by omega
    have hi := rgIdx m hm
    have hn1 : ¬ ((m : Int) < 0) := by omega
    have hn2 : ¬ ((32 : Int) ≤ m) := by omega
    have HW : Hid (∀ w : World, Calls Tryd.prog 85 #[] w fun e w' => e = .returned (.agg rgTab) ∧ Below w.heap.size w w') := fun w => (registerNames_c w).mono fun e w' ⟨a, b⟩ => ⟨a, by rw [b]; exact (Below.refl _ _).alloc (Nat.le_refl _) _⟩
    go_enter Tryd.func74, Tryd.ntmps74
    go_wp2_with (first | (go_at_call 85; refine (HW.out _).mono ?_; rintro e w1 ⟨rfl, hb⟩; have HB : Hid (Below w.heap.size w w1) := hb; clear hb))
    go_ret
    exact ⟨rfl, HB.out⟩
  · have e : regS n = ⟨#[]⟩ := if_neg h
    rw [e]
    have hn : n < 0 ∨ (¬ n < 0 ∧ 32 ≤ n) := by omega
    rcases hn with h1 | ⟨h1, h2⟩
    · go_enter Tryd.func74, Tryd.ntmps74
      go_wp2
      go_ret
      exact ⟨rfl, Below.refl _ _⟩
    · go_enter Tryd.func74, Tryd.ntmps74
      go_wp2
      go_ret
      exact ⟨rfl, Below.refl _ _⟩
theorem rreg_c (n : Int) (w : World) (hR : Rg w) : Calls Tryd.prog 30 #[.int .i64 n] w fun e w' => e = .returned (.string (regS n)) ∧ w' = w := by
  by_cases h : 0 ≤ n ∧ n ≤ 31
  · have e : regS n = rgS n.toNat := if_pos h
    rw [e]
    obtain ⟨h0, h1⟩ := h
    obtain ⟨m, rfl⟩ := Int.eq_ofNat_of_zero_le h0
    rw [Int.toNat_natCast]
    have hm : m < 32 := by omega
    have hc := hR m hm
    have hn1 : ¬ ((m : Int) < 0) := by omega
    have hn2 : ¬ ((31 : Int) < m) := by omega
    have hn3 : (m : Int) < 32 := by omega
    clear hR
    go_enter Tryd.func30, Tryd.ntmps30
    go_wp2
    go_ret
    exact ⟨rfl, rfl⟩
  · have e : regS n = ⟨#[]⟩ := if_neg h
    rw [e]
    clear hR
    have hn : n < 0 ∨ (¬ n < 0 ∧ 31 < n) := by omega
    rcases hn with h1 | ⟨h1, h2⟩
    · go_enter Tryd.func30, Tryd.ntmps30
      go_wp2
      go_ret
      exact ⟨rfl, rfl⟩
    · go_enter Tryd.func30, Tryd.ntmps30
      go_wp2
      go_ret
      exact ⟨rfl, rfl⟩
end Go.Proofs.YthmjimmmkoeeoaaDoor
