/-
  Put of the reference; 'same'.
-/
import Derived.Test.YtjdlbkjkooeceabMc
import Derived.Laws.BytesArg
namespace Go.Proofs.Ytjdlbkjkooeceab
set_option linter.unusedVariables false
open Go.ChangeShapes Go.WideShapes Go.ChangeAt Go.RowKit
/-- One byte appended to a row of the call's own. -/
theorem appB {ops : Array Oper} {rest : List Oper} {o : Oper} {a : Act} {w : World} {Q : Exit → Act → World → Prop} (hgd : o.guard = none) (s x : Operand) (ho : o.op = .call { callee := .builtin .append, args := #[s, x], argTypes := #[22, 22] })
    (B : Nat) (v : Value) (l : List Int) (b : Int) (hs : a.eval s = v) (hown : w.ownsRow B 5 1 v l.length (bv l)) (hx : a.eval x = .slice (some ⟨w.heap.size, 0, none⟩) 1 1) (hl : l.length < 140737488355328) (hB : B ≤ w.heap.size)
    (h : ∀ v' w', w'.ownsRow B 5 1 v' (l ++ [b]).length (bv (l ++ [b])) → w.grownBy w' v.ownBlock → wpList Try.prog ops Q rest (a.put o.dst v') w') :
    wpList Try.prog ops Q (o :: rest) a (w.alloc (.cells #[.int .u8 b] 5)) := by
  obtain ⟨i0, hi, hz0, hz1, hz2⟩ := info_parts info5
  refine wpList_append_own _ hgd s x 22 ho B 5 i0 (.int .u8 0) 1 1 Try.underlying22 hi hz0 hz1 hz2 rfl (by decide) v l.length (bv l) hs (hown.alloc _) ⟨w.heap.size, 0, none⟩ 1 1 [.int .u8 b] hx rfl ?_ ?_ (by unfold maxLen; omega) (by omega) (by simp; omega) ?_
  · intro j u hj
    match j, hj with
    | 0, hj => simp at hj; subst hj; simp [Addr.add]
  · intro u hu; simp at hu; subst hu; rfl
  · intro v' w' h1 h2 _
    refine h v' w' ?_ ?_
    · simpa [bv] using h1
    · exact ⟨h2.os, h2.tape, h2.output, Nat.le_trans (by simp) h2.size, fun k hk hne => (h2.block k (by simp; omega) hne).trans (Below.heap_alloc w _ k hk)⟩
theorem wrap8_mod (M : Nat) : IntKind.u8.wrap (((M : Nat) : Int) % 256) = ((M % 256 : Nat) : Int) := by
  simp [IntKind.wrap, IntKind.signed, IntKind.bits]

theorem fin {w wr : World} {B N k n : Nat} {v : Value} (hB : B = w.heap.size) (hk : k = n) (ho : wr.ownsRow B 5 1 v (ptL N k).length (bv (ptL N k))) (hb : Below B w wr) :
    ∃ u, Ending.returned v = .returned u ∧ wr.ownsRow w.heap.size 5 1 u n (bv (ptL N n)) ∧ Below w.heap.size w wr := by
  subst hB; subst hk
  rw [ptL_length] at ho
  exact ⟨v, rfl, ho, hb⟩

set_option maxHeartbeats 1000000 in
theorem rput_any (x : BitVec 64) (z : Int) (w : World) :
    Calls Try.prog 9 #[.int .u64 (n64 x), .int .i64 z] w fun e w' => ∃ v, e = .returned v ∧ w'.ownsRow w.heap.size 5 1 v (cl z) (bv (ptL x.toNat (cl z))) ∧ Below w.heap.size w w' := by
  obtain ⟨B, hB⟩ : ∃ B, B = w.heap.size := ⟨_, rfl⟩
  obtain ⟨n, hn⟩ : ∃ n, n = cl z := ⟨_, rfl⟩
  rw [← hn]
  have HN : Hid (n = cl z) := hn
  have HB0 : Hid (B = w.heap.size) := hB
  have hn8 : n ≤ 8 := hn ▸ cl_le z
  clear hn hB
  have hN := x.isLt
  unfold n64
  obtain ⟨N, hN0⟩ : ∃ N, N = x.toNat := ⟨_, rfl⟩
  rw [← hN0] at hN ⊢
  have HX : Hid (N = x.toNat) := hN0
  have HNB : Hid (N < 2 ^ 64) := hN
  clear hN0 hN
  go_enter Try.func9, Try.ntmps9
  go_wp2
  go_loopw [0, 5, 6] (fun v l i wr => ∃ k : Nat, k ≤ n ∧ i = .int .i64 k ∧ v = .int .u64 ((N / 256 ^ k : Nat) : Int) ∧ Hid (wr.ownsRow B 5 1 l (ptL N k).length (bv (ptL N k))) ∧ Hid (Below B w wr)) (fun _ _ i _ => n - (intOf i).toNat)
  case atStart => exact ⟨0, Nat.zero_le _, rfl, by simp, World.ownsRow_nil _ _ _ _, Below.refl _ _⟩
  case round =>
    obtain ⟨k, hk, rfl, rfl, hown, hbel⟩ := hrel
    by_cases hlt : k < n
    · have hz : (k : Int) < z := by have := HN.out; unfold cl at this; omega
      have h8 : (k : Int) < 8 := by omega
      have HS : Hid (ptL N (k + 1) = ptL N k ++ [((N / 256 ^ k % 256 : Nat) : Int)]) := ptL_succ N k
      have HD : Hid (N / 256 ^ (k + 1) = N / 256 ^ k / 256) := by unfold Hid; rw [Nat.pow_succ, Nat.div_div_eq_div_mul]
      have hlen : (ptL N k).length < 140737488355328 := by rw [ptL_length]; omega
      have hM : N / 256 ^ k < 2 ^ 64 := Nat.lt_of_le_of_lt (Nat.div_le_self _ _) HNB.out
      obtain ⟨M, hM0⟩ : ∃ M, M = N / 256 ^ k := ⟨_, rfl⟩
      rw [← hM0] at hM ⊢
      have HM : Hid (M = N / 256 ^ k) := hM0
      clear hM0
      have hMi : ((M : Nat) : Int) < 18446744073709551616 := by omega
      clear hM
      have hBs : B ≤ wr.heap.size := Nat.le_trans (by rw [HB0.out]; exact Nat.le_refl _) hbel.out.size
      go_wp2_with (at_builtin; refine appB (by rfl) _ _ (by rfl) B _ (ptL N k) _ (by rfl) hown.out (by rfl) hlen hBs ?_; intro v' w1 hown1 hg1)
      have HG : Hid (wr.grownBy w1 (Value.ownBlock u5)) := hg1
      have HO1 := hown1
      rw [show ((M : Int) % 256) = ((M % 256 : Nat) : Int) from rfl, HM.out, ← HS.out] at HO1
      have HO : Hid (w1.ownsRow B 5 1 v' (ptL N (k + 1)).length (bv (ptL N (k + 1)))) := HO1
      clear HO1 hg1 hown1
      go_roundw
      case rel =>
        refine ⟨k + 1, by omega, by go_num, ?_, HO, ?_⟩
        · rw [HD.out, ← HM.out]; rfl
        · exact hbel.out.grown HG.out hBs (fun k hk => (hown.out.lt k hk).1)
      case measure => simp [intOf]; omega
    · have hkn : k = n := by omega
      have HK : Hid (k = n) := hkn
      clear hkn hlt
      by_cases h8 : (k : Int) < 8
      · have hz : z ≤ (k : Int) := by have := HN.out; have := HK.out; unfold cl at *; omega
        go_wp2
        go_ret
        exact fin HB0.out HK.out hown.out hbel.out
      · have h8 : (8 : Int) ≤ (k : Int) := by omega
        by_cases hz : (k : Int) < z
        · go_wp2
          go_ret
          exact fin HB0.out HK.out hown.out hbel.out
        · have hz : z ≤ (k : Int) := by omega
          go_wp2
          go_ret
          exact fin HB0.out HK.out hown.out hbel.out

theorem Byt.conv {w : World} {v : Value} {l : List Int} (h : Byt w v l) : (convert 22 9 v).run Try.prog w = .ok (.string (strOfNums l)) w := by
  obtain ⟨a, cap, rfl, h1, h1', h2⟩ := h
  by_cases hl : l = []
  · subst hl
    cases a with
    | none => exact run_convert_bytes_nil (P := Try.prog) w 22 5 Try.underlying22 Try.underlying5 _ _ _ Try.underlying9
    | some ad =>
      rw [run_convert_bytes_string w 22 9 5 _ _ _ Try.underlying22 Try.underlying5 Try.underlying9]
      exact run_bytesToString w ad 0 cap [] (by have := run_loadCells_list (P := Try.prog) w ad [] (fun j v hj => by simp at hj); simpa using this)
  · obtain ⟨g, off, rfl, h3, h4⟩ := h2 hl
    exact run_convert_bytes_arg w 22 5 Try.underlying22 Try.underlying5 g off l.length cap l rfl h4 _ Try.underlying9

theorem same_true {w : World} {va vb : Value} {l : List Int} (ha : Byt w va l) (hb : Byt w vb l) :
    Calls Try.prog 10 #[va, vb] w fun e w' => e = .returned (.bool true) ∧ w' = w := by
  have ca := ha.conv
  have cb := hb.conv
  generalize strOfNums l = s at ca cb
  clear ha hb
  go_enter Try.func10, Try.ntmps10
  go_wp2
  go_ret
  exact ⟨rfl, rfl⟩
end Go.Proofs.Ytjdlbkjkooeceab
