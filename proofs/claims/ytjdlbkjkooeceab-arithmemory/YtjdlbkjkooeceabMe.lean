/-
  The law's own 'lent' and 'kept'.
-/
import Derived.Test.YtjdlbkjkooeceabMd
import Derived.Laws.AppendOwnNone
namespace Go.Proofs.Ytjdlbkjkooeceab
set_option linter.unusedVariables false
open Go.ChangeShapes Go.WideShapes Go.ChangeAt Go.RowKit
/-- The marks behind a list. -/
def mks (k : Nat) : List Int := (List.range k).map fun i : Nat => 200 + (i : Int) % 7
theorem mks_length (k : Nat) : (mks k).length = k := by simp [mks]
theorem mks_succ (k : Nat) : mks (k + 1) = mks k ++ [200 + (k : Int) % 7] := by simp [mks, List.range_succ]
theorem mks_get (n k : Nat) (h : k < n) : (mks n).getD k 0 = 200 + (k : Int) % 7 := by simp [mks, h]
/-- A slice of bytes appended to an empty one of the call's own. -/
theorem appL {ops : Array Oper} {rest : List Oper} {o : Oper} {a : Act} {w : World} {Q : Exit → Act → World → Prop} (hgd : o.guard = none) (s x : Operand) (ho : o.op = .call { callee := .builtin .append, args := #[s, x], argTypes := #[22, 22] })
    (B : Nat) (v u : Value) (l : List Int) (hs : a.eval s = v) (hown : w.ownsRow B 5 1 v 0 (bv [])) (hx : a.eval x = u) (hu : Byt w u l) (hl : l.length ≤ 140737488355328) (hB : B ≤ w.heap.size)
    (h : ∀ v' w', w'.ownsRow B 5 1 v' l.length (bv l) → w.grownBy w' v.ownBlock → wpList Try.prog ops Q rest (a.put o.dst v') w') :
    wpList Try.prog ops Q (o :: rest) a w := by
  obtain ⟨i0, hi, hz0, hz1, hz2⟩ := info_parts info5
  obtain ⟨ao, cap, rfl, h1, h1', h2⟩ := hu
  cases ao with
  | none =>
    have hc := h1' rfl
    have hl0 : l = [] := List.eq_nil_of_length_eq_zero (by omega)
    subst hl0; subst hc
    refine wpList_append_own_none hgd s x 22 ho B 5 i0 1 Try.underlying22 hi v 0 (bv []) hs hown hx ?_
    exact h _ _ hown (World.grownBy.refl _ _)
  | some ad =>
    refine wpList_append_own _ hgd s x 22 ho B 5 i0 (.int .u8 0) 1 1 Try.underlying22 hi hz0 hz1 hz2 rfl (by decide) v 0 (bv []) hs hown ad l.length cap (bv l) hx (by simp [bv]) ?_ ?_ (by unfold maxLen; omega) (by omega) hB ?_
    · intro j w2 hj
      have hjl : j < l.length := by have := (List.getElem?_eq_some_iff.1 hj).1; simpa [bv] using this
      obtain ⟨g, off, he, h3, h4⟩ := h2 (by intro e; rw [e] at hjl; simp at hjl)
      cases he
      rw [bv_get _ _ hjl] at hj
      cases hj
      have hadd : (⟨g, off, none⟩ : Addr).add j = ⟨g, off + j, none⟩ := by unfold Addr.add; split <;> simp_all
      rw [hadd]
      exact h4 j hjl
    · intro w2 hw2; simp [bv] at hw2; obtain ⟨q, _, rfl⟩ := hw2; rfl
    · intro v' w' g1 g2 _
      exact h v' w' (by simpa [bv] using g1) g2

set_option maxHeartbeats 1000000 in
theorem lent_any {l : List Int} (hl : l.length + 64 ≤ 140737488355328) (v : Value) (w : World) (hv : Byt w v l) :
    Calls Try.prog 4 #[v] w fun e w' => ∃ u, e = .returned u ∧ w'.ownsRow w.heap.size 5 1 u (l.length + 64) (bv (l ++ mks 64)) ∧ Below w.heap.size w w' := by
  obtain ⟨B, hB⟩ : ∃ B, B = w.heap.size := ⟨_, rfl⟩
  have HB0 : Hid (B = w.heap.size) := hB
  have HV : Hid (Byt w v l) := hv
  clear hB hv
  go_enter Try.func4, Try.ntmps4
  have ow : (w.alloc (.cells #[] 5)).ownsRow B 5 1 (.slice (some ⟨w.heap.size, 0, none⟩) 0 0) 0 (bv []) := World.ownsRow_made w #[] 0 (by rw [HB0.out]; exact Nat.le_refl _) (Nat.zero_le _) rfl
  have HW : Hid ((w.alloc (.cells #[] 5)).ownsRow B 5 1 (.slice (some ⟨w.heap.size, 0, none⟩) 0 0) 0 (bv [])) := ow
  have HV2 : Hid (Byt (w.alloc (.cells #[] 5)) v l) := HV.out.later ((Below.refl _ _).alloc (Nat.le_refl _) _) rfl
  have hBs : B ≤ (w.alloc (.cells #[] 5)).heap.size := by rw [HB0.out]; simp
  have HBs : Hid (B ≤ (w.alloc (.cells #[] 5)).heap.size) := hBs
  clear ow hBs
  go_wp2_with (at_builtin; refine appL (by rfl) _ _ (by rfl) B _ _ l (by rfl) HW.out (by rfl) HV2.out (by omega) HBs.out ?_; intro v' w1 hown1 hg1)
  have HO : Hid (w1.ownsRow B 5 1 v' (l ++ mks 0).length (bv (l ++ mks 0))) := by have := hown1; unfold Hid; simpa [mks] using this
  have HBl : Hid (Below B w w1) := by
    unfold Hid
    refine Below.grown ((Below.refl _ _).alloc (by rw [HB0.out]; exact Nat.le_refl _) (.cells #[] 5)) hg1 HBs.out ?_
    intro k hk
    exact (HW.out.lt k hk).1
  clear hown1 hg1 HW HV2
  go_wp2
  go_loopw [3, 4] (fun f i wr => ∃ k : Nat, k ≤ 64 ∧ i = .int .i64 k ∧ Hid (wr.ownsRow B 5 1 f (l ++ mks k).length (bv (l ++ mks k))) ∧ Hid (Below B w wr)) (fun _ i _ => 64 - (intOf i).toNat)
  case atStart => exact ⟨0, Nat.zero_le _, rfl, HO, HBl⟩
  case round =>
    obtain ⟨k, hk, rfl, hown, hbel⟩ := hrel
    clear HO HBl
    by_cases hlt : k < 64
    · have h64 : (k : Int) < 64 := by omega
      have hlen : (l ++ mks k).length < 140737488355328 := by rw [List.length_append, mks_length]; omega
      have hBs : B ≤ wr.heap.size := Nat.le_trans (by rw [HB0.out]; exact Nat.le_refl _) hbel.out.size
      have HS : Hid (l ++ mks (k + 1) = l ++ mks k ++ [200 + (k : Int) % 7]) := by unfold Hid; rw [mks_succ, List.append_assoc]
      go_wp2_with (at_builtin; refine appB (by rfl) _ _ (by rfl) B _ (l ++ mks k) _ (by rfl) hown.out (by rfl) hlen hBs ?_; intro v' w1 hown1 hg1)
      rw [← HS.out] at hown1
      have HO : Hid (w1.ownsRow B 5 1 v' (l ++ mks (k + 1)).length (bv (l ++ mks (k + 1)))) := hown1
      have HG : Hid (wr.grownBy w1 u3.ownBlock) := hg1
      clear hown1 hg1
      go_roundw
      case rel => exact ⟨k + 1, by omega, by go_num, HO, hbel.out.grown HG.out hBs (fun k hk => (hown.out.lt k hk).1)⟩
      case measure => simp [intOf]; omega
    · have hkn : k = 64 := by omega
      subst hkn
      have e : (l ++ mks 64).length = l.length + 64 := by rw [List.length_append, mks_length]
      rw [e] at hown
      clear e
      go_wp2
      go_ret
      have hB := HB0.out
      subst hB
      exact ⟨_, rfl, hown.out, hbel.out⟩

theorem getD_l {l m : List Int} {j : Nat} (h : j < l.length) : (l ++ m).getD j 0 = l.getD j 0 := by
  unfold List.getD; rw [List.getElem?_append_left h]
theorem getD_r {l m : List Int} {j : Nat} : (l ++ m).getD (l.length + j) 0 = m.getD j 0 := by
  unfold List.getD; rw [List.getElem?_append_right (by omega), show l.length + j - l.length = j by omega]
/-- The first bytes of a row of the call's own. -/
theorem Byt.first {w : World} {B g n cap : Nat} {l m : List Int} (h : w.ownsRow B 5 1 (.slice (some ⟨g, 0, none⟩) n cap) n (bv (l ++ m))) : Byt w (.slice (some ⟨g, 0, none⟩) l.length cap) l := by
  have hlen := h.1
  rw [bv_length, List.length_append, Nat.mul_one] at hlen
  have hcap : n ≤ cap := by
    rcases h.2 with ⟨h', _⟩ | ⟨g', cap', cur, h', _, _, hn, _⟩
    · simp at h'
    · simp only [Value.slice.injEq] at h'; obtain ⟨_, _, rfl⟩ := h'; exact hn
  refine ⟨some ⟨g, 0, none⟩, cap, rfl, by omega, (fun e => by cases e), fun hne => ⟨g, 0, rfl, (h.lt g rfl).2, fun j hj => ?_⟩⟩
  rw [Nat.zero_add, h.cellAt j (by omega), bv_get _ _ (by rw [List.length_append]; omega), getD_l hj]

set_option maxHeartbeats 1000000 in
theorem kept_true {l : List Int} (hl : l.length + 64 ≤ 140737488355328) {B g cap : Nat} {vb : Value} {w : World} (hu : w.ownsRow B 5 1 (.slice (some ⟨g, 0, none⟩) (l.length + 64) cap) (l.length + 64) (bv (l ++ mks 64))) (hb : Byt w vb l) :
    Calls Try.prog 7 #[.slice (some ⟨g, 0, none⟩) (l.length + 64) cap, vb] w fun e w' => e = .returned (.bool true) ∧ w' = w := by
  have HF : Hid (Byt w (.slice (some ⟨g, 0, none⟩) l.length cap) l) := Byt.first hu
  have HU : Hid (w.ownsRow B 5 1 (.slice (some ⟨g, 0, none⟩) (l.length + 64) cap) (l.length + 64) (bv (l ++ mks 64))) := hu
  have hcap : l.length + 64 ≤ cap := by
    rcases hu.2 with ⟨h', _⟩ | ⟨g', cap', cur, h', _, _, hn, _⟩
    · simp at h'
    · simp only [Value.slice.injEq] at h'; obtain ⟨_, _, rfl⟩ := h'; exact hn
  have HB : Hid (Byt w vb l) := hb
  clear hu
  obtain ⟨ab, capb, rfl, hb1, _, _⟩ := hb
  go_enter Try.func7, Try.ntmps7
  go_wp2
  go_loopw [5] (fun i wr => ∃ k : Nat, k ≤ 64 ∧ i = .int .i64 k ∧ wr = w) (fun i _ => 64 - (intOf i).toNat)
  case atStart => exact ⟨0, Nat.zero_le _, rfl, rfl⟩
  case round =>
    obtain ⟨k, hk, rfl, rfl⟩ := hrel
    by_cases hlt : k < 64
    · have h64 : (k : Int) < 64 := by omega
      have hi : (l.length : Int) + (k : Int) < (l.length : Int) + 64 := by omega
      have hce : wr.cell? ⟨g, l.length + k, none⟩ = some (.int .u8 (200 + (k : Int) % 7)) := by
        rw [HU.out.cellAt (l.length + k) (by omega), bv_get _ _ (by rw [List.length_append, mks_length]; omega), getD_r, ← mks_get 64 k hlt]
      go_wp2
      go_roundw
      case rel => exact ⟨k + 1, by omega, by go_num, trivial⟩
      case measure => simp [intOf]; omega
    · have hkn : k = 64 := by omega
      subst hkn
      go_wp2_with (go_at_call 10; refine (same_true HF.out HB.out).mono ?_; rintro e w' ⟨rfl, rfl⟩)
      go_ret
      exact ⟨rfl, rfl⟩
end Go.Proofs.Ytjdlbkjkooeceab
