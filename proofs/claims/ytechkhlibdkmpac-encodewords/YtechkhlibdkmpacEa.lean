/-
  The reference's forms: rows of five cells; family, atomics; register, one.
-/
import Derived.Test.YtechkhlibdkmpacNum
import Derived.Laws.AppendOwnNone
import Derived.Lib.OwnKind
import Derived.Lib.SmallJoins
import Derived.BigRegion
import Derived.Deep.CutRange
namespace Go.Proofs.Ytechkhlibdkmpac
set_option linter.unusedVariables false
open Go.ChangeShapes Go.WideShapes Go.ChangeAt Go.RowKit Go.Deep
structure Fm where
  op : Int
  code : Int
  f3 : Int
  top : Int
  kind : Int
def fmv (x : Fm) : List Value := [.int .i64 x.op, .int .i64 x.code, .int .i64 x.f3, .int .i64 x.top, .int .u8 x.kind]
def fmL : List Fm → List Value
  | [] => []
  | x :: xs => fmv x ++ fmL xs
theorem fmL_len (l : List Fm) : (fmL l).length = l.length * 5 := by
  induction l with
  | nil => rfl
  | cons x xs ih => simp only [fmL, List.length_append, ih, fmv, List.length_cons, List.length_nil]; omega
theorem fmL_app (l m : List Fm) : fmL (l ++ m) = fmL l ++ fmL m := by
  induction l with
  | nil => rfl
  | cons x xs ih => simp only [List.cons_append, fmL, ih, List.append_assoc]
def fm0 : Fm := ⟨0, 0, 0, 0, 0⟩
theorem fmL_get (l : List Fm) : ∀ j, j < l.length → ∀ c, c < 5 → (fmL l)[j * 5 + c]? = (fmv (l.getD j fm0))[c]? := by
  induction l with
  | nil => intro j hj; simp at hj
  | cons x xs ih =>
    intro j hj c hc
    have hl : (fmv x).length = 5 := rfl
    cases j with
    | zero =>
      simp only [fmL, Nat.zero_mul, Nat.zero_add, List.getD_cons_zero]
      rw [List.getElem?_append_left (by omega)]
    | succ j =>
      simp only [fmL, List.getD_cons_succ]
      rw [List.getElem?_append_right (by omega), hl, show (j + 1) * 5 + c - 5 = j * 5 + c by omega]
      exact ih j (by simpa using hj) c hc
theorem fmL_one (l : List Fm) : ∀ u ∈ fmL l, u.oneCell' = true := by
  induction l with
  | nil => intro u hu; cases hu
  | cons x xs ih =>
    intro u hu
    rcases List.mem_append.1 hu with h | h
    · simp only [fmv, List.mem_cons, List.not_mem_nil, or_false] at h
      rcases h with rfl | rfl | rfl | rfl | rfl <;> rfl
    · exact ih u h
theorem infoForm : (Try.prog.info? 40).map (fun i => (i.zero, i.size, i.bytes)) = some (some (.agg (fmv fm0).toArray), 5, 40) := by kernel_rfl
theorem addAt (g off j : Nat) : (⟨g, off, none⟩ : Addr).add j = ⟨g, off + j, none⟩ := by unfold Addr.add; split <;> simp_all
theorem below_al (w : World) (o : Obj) : Below w.heap.size w (w.alloc o) := (Below.refl _ _).alloc (Nat.le_refl _) _
/-- Rows appended to a list of the call's own. -/
theorem appF {ops : Array Oper} {rest : List Oper} {o : Oper} {a : Act} {w : World} {Q : Exit → Act → World → Prop} (hgd : o.guard = none) (s x : Operand) (ho : o.op = .call { callee := .builtin .append, args := #[s, x], argTypes := #[60, 60] })
    (B : Nat) (v : Value) (m l : List Fm) (hs : a.eval s = v) (hown : w.ownsRow B 40 5 v m.length (fmL m)) (hx : a.eval x = .slice (some ⟨w.heap.size, 0, none⟩) l.length l.length) (hl : m.length + l.length ≤ 1000) (hB : B ≤ w.heap.size)
    (h : ∀ v' w', w'.ownsRow B 40 5 v' (m ++ l).length (fmL (m ++ l)) → w.grownBy w' v.ownBlock → wpList Try.prog ops Q rest (a.put o.dst v') w') :
    wpList Try.prog ops Q (o :: rest) a (w.alloc (.cells (fmL l).toArray 40)) := by
  obtain ⟨i0, hi, hz0, hz1, hz2⟩ := info_parts infoForm
  refine wpList_append_own _ hgd s x 60 ho B 40 i0 (.agg (fmv fm0).toArray) 5 40 Try.underlying60 hi hz0 hz1 hz2 rfl (by decide) v m.length (fmL m) hs (hown.alloc _) ⟨w.heap.size, 0, none⟩ l.length l.length (fmL l) hx (fmL_len l) ?_ (fmL_one l) (by unfold maxLen; omega) (by omega) (by simp; omega) ?_
  · intro j u hj
    rw [addAt, Nat.zero_add, cell_of_row _ w.heap.size j _ _ _ (heap_alloc_new w _)]
    simpa using hj
  · intro v' w' h1 h2 _
    refine h v' w' (by rw [List.length_append, fmL_app]; exact h1) ?_
    exact ⟨h2.os, h2.tape, h2.output, Nat.le_trans (by simp) h2.size, fun k hk hne => (h2.block k (by simp; omega) hne).trans (Below.heap_alloc w _ k hk)⟩
def famN (op code : Int) (f3s : List Int) (top kind : Int) (k : Nat) : List Fm := (List.range k).map fun (i : Nat) => ⟨op + (i : Int), code, f3s.getD i 0, top, kind⟩
def fam (op code : Int) (f3s : List Int) (top kind : Int) : List Fm := famN op code f3s top kind f3s.length
theorem famN_len (op code : Int) (f3s : List Int) (top kind : Int) (k : Nat) : (famN op code f3s top kind k).length = k := by simp [famN]
theorem famN_succ (op code : Int) (f3s : List Int) (top kind : Int) (k : Nat) : famN op code f3s top kind (k + 1) = famN op code f3s top kind k ++ [⟨op + (k : Int), code, f3s.getD k 0, top, kind⟩] := by simp [famN, List.range_succ]
def iv (l : List Int) : Array Value := (l.map (Value.int .i64)).toArray
theorem iv_get {l : List Int} {k : Nat} (h : k < l.length) : (iv l)[k]? = some (.int .i64 (l.getD k 0)) := by simp [iv, h]
theorem own_kind_ne {w : World} {B e n s T : Nat} {v : Value} {xs : List Value} {q : Nat} {cs : Array Value} {fr : Nat × Nat} (h : w.ownsRow B e s v n xs) (hq : w.heap[q]? = some (.cells cs T fr)) (hT : T ≠ e) : v.ownBlock ≠ some q := by
  intro hg
  obtain ⟨c, fz, h1⟩ := Go.Lib.ownsRow_kind h q hg
  rw [hq] at h1
  simp at h1
  exact hT h1.2.1
/-- Behind one append: the list, the numbers, what lies below. -/
theorem fam_step {M g : Nat} {w wr w8 : World} {v : Value} {m : List Fm} {cs : Array Value} (ho : wr.ownsRow M 40 5 v m.length (fmL m)) (hg : wr.heap[g]? = some (.cells cs 3 (0, 0))) (hb : Below M w wr) (hM : M ≤ wr.heap.size) (hgr : wr.grownBy w8 v.ownBlock) :
    w8.heap[g]? = some (.cells cs 3 (0, 0)) ∧ Below M w w8 ∧ M ≤ w8.heap.size :=
  ⟨(hgr.block g (Array.getElem?_eq_some_iff.1 hg).1 (fun e => own_kind_ne ho hg (by decide) e.symm)).trans hg, hb.grown hgr hM (fun k hk => (ho.lt k hk).1), Nat.le_trans hM hgr.size⟩
set_option maxRecDepth 100000 in
set_option maxHeartbeats 4000000 in
theorem family_c (M g : Nat) (l : List Fm) (v : Value) (op code top kind : Int) (f3s : List Int) (w : World) (hown : w.ownsRow M 40 5 v l.length (fmL l)) (hg : w.heap[g]? = some (.cells (iv f3s) 3 (0, 0))) (hop : 0 ≤ op ∧ op ≤ 1000) (hM : M ≤ w.heap.size) (hl : l.length + f3s.length ≤ 500) :
    Calls Try.prog 31 #[v, .int .i64 op, .int .i64 code, .slice (some ⟨g, 0, none⟩) f3s.length f3s.length, .int .i64 top, .int .u8 kind] w fun e w' => ∃ v', e = .returned v' ∧ w'.ownsRow M 40 5 v' (l ++ fam op code f3s top kind).length (fmL (l ++ fam op code f3s top kind)) ∧ Below M w w' := by
  have H0 : Hid (w.ownsRow M 40 5 v (l ++ famN op code f3s top kind 0).length (fmL (l ++ famN op code f3s top kind 0)) ∧ w.heap[g]? = some (.cells (iv f3s) 3 (0, 0)) ∧ Below M w w ∧ M ≤ w.heap.size) := ⟨by simpa [famN] using hown, hg, Below.refl _ _, hM⟩
  clear hown hg hM
  go_enter Try.func31, Try.ntmps31
  go_wp2
  go_loopw [0, 13] (fun u i wr => ∃ k : Nat, k ≤ f3s.length ∧ i = .int .i64 k ∧ Hid (wr.ownsRow M 40 5 u (l ++ famN op code f3s top kind k).length (fmL (l ++ famN op code f3s top kind k)) ∧ wr.heap[g]? = some (.cells (iv f3s) 3 (0, 0)) ∧ Below M w wr ∧ M ≤ wr.heap.size)) (fun _ i _ => f3s.length - (intOf i).toNat)
  case atStart => exact ⟨0, Nat.zero_le _, rfl, H0⟩
  case round =>
    obtain ⟨k, hk, rfl, hst⟩ := hrel
    clear H0
    by_cases hlt : k < f3s.length
    · have hlt2 : (k : Int) < (f3s.length : Int) := by omega
      have hk5 : (k : Int) ≤ 500 := by omega
      have hce : wr.cell? ⟨g, k, none⟩ = some (.int .i64 (f3s.getD k 0)) := by rw [cell_of_row wr g k _ _ _ hst.out.2.1]; exact iv_get hlt
      have hln : (l ++ famN op code f3s top kind k).length + 1 ≤ 1000 := by rw [List.length_append, famN_len]; omega
      obtain ⟨z, hz⟩ : ∃ z, z = f3s.getD k 0 := ⟨_, rfl⟩
      rw [← hz] at hce
      have HZ : Hid (z = f3s.getD k 0) := hz
      clear hz
      go_upto_region 3 with (at_builtin; refine appF (w := wr) (by rfl) _ _ (by rfl) M _ (l ++ famN op code f3s top kind k) [⟨op + (k : Int), code, z, top, kind⟩] (by rfl) hst.out.1 (by rfl) hln hst.out.2.2.2 ?_; intro v8 w8 ho8 hg8; have HN : Hid (w8.ownsRow M 40 5 v8 (l ++ famN op code f3s top kind (k + 1)).length (fmL (l ++ famN op code f3s top kind (k + 1))) ∧ w8.heap[g]? = some (.cells (iv f3s) 3 (0, 0)) ∧ Below M w w8 ∧ M ≤ w8.heap.size) := (by rw [famN_succ, ← HZ.out, ← List.append_assoc]; exact ⟨ho8, fam_step hst.out.1 hst.out.2.1 hst.out.2.2.1 hst.out.2.2.2 hg8⟩); clear ho8 hg8)
      go_wp2
      go_roundw
      all_goals first | exact ⟨k + 1, by omega, by go_num, HN⟩ | (simp [intOf] <;> omega)
    · obtain rfl : k = f3s.length := by omega
      have hnl : ¬ (f3s.length : Int) < (f3s.length : Int) := by omega
      go_wp2
      go_ret
      exact ⟨u0, rfl, by rw [← List.length_append]; exact hst.out.1, hst.out.2.2.1⟩
def tops : List Int := [2, 3, 1, 0, 4, 12, 8, 16, 20, 24, 28]
def atN (op f3 : Int) (k : Nat) : List Fm := (List.range k).map fun (i : Nat) => ⟨op + (i : Int), 47, f3, tops.getD i 0, if i = 0 then 76 else 65⟩
def atom (op f3 : Int) : List Fm := atN op f3 11
theorem atN_len (op f3 : Int) (k : Nat) : (atN op f3 k).length = k := by simp [atN]
theorem atN_succ (op f3 : Int) (k : Nat) : atN op f3 (k + 1) = atN op f3 k ++ [⟨op + (k : Int), 47, f3, tops.getD k 0, if k = 0 then 76 else 65⟩] := by simp [atN, List.range_succ]
def isIn (c : Int) (s : List Int) : Bool := s.any (· == c)
def regB (r : Int) (has : Bool) : Bool := decide (0 ≤ r) && decide (r < 32) && (has || r == 0)
theorem register_c (r : Int) (has : Bool) (w : World) (hr : -9223372036854775808 ≤ r ∧ r ≤ 9223372036854775807) :
    Calls Try.prog 12 #[.int .i64 r, .bool has] w fun e w' => e = .returned (.bool (regB r has)) ∧ w' = w := by
  obtain ⟨b, hb⟩ : ∃ b, b = regB r has := ⟨_, rfl⟩
  rw [← hb]
  unfold regB at hb
  by_cases h1 : 0 ≤ r
  · by_cases h2 : r < 32
    · rw [decide_eq_true h1, decide_eq_true h2] at hb
      cases has with
      | true =>
        have HE : Hid (b = true) := hb
        clear hb
        go_enter Try.func12, Try.ntmps12
        go_wp2
        go_ret
        exact ⟨by rw [HE.out]; rfl, rfl⟩
      | false =>
        have HE : Hid (b = (r == 0)) := hb
        clear hb
        go_enter Try.func12, Try.ntmps12
        go_wp2
        go_ret
        exact ⟨by rw [HE.out]; rfl, rfl⟩
    · rw [decide_eq_false h2, Bool.and_false, Bool.false_and] at hb
      have HE : Hid (b = false) := hb
      clear hb
      go_enter Try.func12, Try.ntmps12
      go_wp2
      go_ret
      exact ⟨by rw [HE.out]; rfl, rfl⟩
  · rw [decide_eq_false h1, Bool.false_and, Bool.false_and] at hb
    have HE : Hid (b = false) := hb
    clear hb
    go_enter Try.func12, Try.ntmps12
    go_wp2
    go_ret
    exact ⟨by rw [HE.out]; rfl, rfl⟩
end Go.Proofs.Ytechkhlibdkmpac
