/-
  Layer 16 (save): the reference's num, flag, head.
-/
import Derived.Test.YtnlkamfoopikhaaHi
import Derived.Lib.OwnKind
namespace Go.Proofs.Ytnlkamfoopikhaa
set_option linter.unusedVariables false
set_option maxRecDepth 100000
open Go.ChangeShapes Go.WideShapes Go.ChangeAt Go.RowKit Go.Deep
/-- What lies below B has stayed as it was, and so have all rows that are no bytes. -/
structure Fr (B : Nat) (w w' : World) : Prop where
  b : Below B w w'
  k : ∀ (g : Nat) (cur : Array Value) (t : TypeId) (z : Nat × Nat), t ≠ 5 → w.heap[g]? = some (Obj.cells cur t z) → w'.heap[g]? = some (Obj.cells cur t z)
theorem Fr.refl (B : Nat) (w : World) : Fr B w w := ⟨Below.refl _ _, fun _ _ _ _ _ h => h⟩
theorem Fr.trans {B : Nat} {w w' w'' : World} (h : Fr B w w') (k : Fr B w' w'') : Fr B w w'' := ⟨h.b.trans k.b, fun g cur t z ht hg => k.k g cur t z ht (h.k g cur t z ht hg)⟩
theorem Fr.alloc {B : Nat} {w w' : World} (h : Fr B w w') (hB : B ≤ w'.heap.size) (o : Obj) : Fr B w (w'.alloc o) :=
  ⟨h.b.alloc hB o, fun g cur t z ht hg => by
    have h1 := h.k g cur t z ht hg
    rw [Below.heap_alloc w' o g (Array.getElem?_eq_some_iff.1 h1).1]; exact h1⟩
theorem Fr.grown {B n : Nat} {w w' : World} {v : Value} {xs : List Value} (ho : w.ownsRow B 5 1 v n xs) (hB : B ≤ w.heap.size) (hg : w.grownBy w' v.ownBlock) : Fr B w w' :=
  ⟨(Below.refl _ _).grown hg hB (fun k hk => (ho.lt k hk).1), fun g cur t z ht h => by
    rw [hg.block g (Array.getElem?_eq_some_iff.1 h).1 (fun e => ?_)]
    · exact h
    · obtain ⟨c, fz, h2⟩ := Go.Lib.ownsRow_kind ho g e.symm
      rw [h] at h2
      simp at h2
      exact ht h2.2.1⟩
theorem Fr.of {B : Nat} {w w' : World} (h : Below w.heap.size w w') (hB : B ≤ w.heap.size) : Fr B w w' := ⟨h.mono hB, fun g cur t z ht hg => by
  rw [h.block g (Array.getElem?_eq_some_iff.1 hg).1]; exact hg⟩
theorem Row.fr {B g : Nat} {w w' : World} {cs : Array Value} {t : TypeId} (h : Row w g cs t) (hf : Fr B w w') (ht : t ≠ 5) : Row w' g cs t := hf.k g cs t (0, 0) ht h
/-- A list of bytes of one's own. -/
def Owb (B : Nat) (w : World) (v : Value) (l : List Int) : Prop := w.ownsRow B 5 1 v l.length (bv l)
/-- Some bytes appended, out of a new block. -/
theorem appN {ops : Array Oper} {rest : List Oper} {o : Oper} {a : Act} {w : World} {Q : Exit → Act → World → Prop} (hgd : o.guard = none) (s x : Operand) (ho : o.op = .call { callee := .builtin .append, args := #[s, x], argTypes := #[32, 32] })
    (B : Nat) (vb : Value) (lb m : List Int) (hs : a.eval s = vb) (hp : Owb B w vb lb) (h0 n : Nat) (hn : n = m.length) (hx : a.eval x = .slice (some ⟨h0, 0, none⟩) n n) (hh0 : h0 = w.heap.size) (hl : lb.length + m.length < 140737488355328) (hB : B ≤ w.heap.size)
    (h : ∀ v' w', Owb B w' v' (lb ++ m) → Fr B w w' → wpList Try.prog ops Q rest (a.put o.dst v') w') :
    wpList Try.prog ops Q (o :: rest) a (w.alloc (.cells (bv m).toArray 5)) := by
  subst hh0
  subst hn
  obtain ⟨i0, hi, hz0, hz1, hz2⟩ := info_parts info5
  refine wpList_append_own _ hgd s x 32 ho B 5 i0 (.int .u8 0) 1 1 Try.underlying32 hi hz0 hz1 hz2 rfl (by decide) vb lb.length (bv lb) hs (World.ownsRow.alloc hp _) ⟨w.heap.size, 0, none⟩ m.length m.length (bv m) hx (by simp [bv]) ?_ ?_ (by unfold maxLen; omega) (by omega) (by simp; omega) ?_
  · intro j u hj
    rw [addAt, Nat.zero_add, (Row.new w _ _).cell, List.getElem?_toArray]; exact hj
  · intro u hu; simp [bv] at hu; obtain ⟨q, _, rfl⟩ := hu; rfl
  · intro v' w' h1 h2 _
    have hg : w.grownBy w' vb.ownBlock := ⟨h2.os, h2.tape, h2.output, Nat.le_trans (by simp) h2.size, fun k hk hne => (h2.block k (by simp; omega) hne).trans (Below.heap_alloc w _ k hk)⟩
    exact h v' w' (by unfold Owb; simpa [bv] using h1) (Fr.grown hp hB hg)
/-- Bytes appended, wherever they lie. -/
theorem appY {ops : Array Oper} {rest : List Oper} {o : Oper} {a : Act} {w : World} {Q : Exit → Act → World → Prop} (hgd : o.guard = none) (s x : Operand) (ho : o.op = .call { callee := .builtin .append, args := #[s, x], argTypes := #[32, 32] })
    (B : Nat) (v u : Value) (m l : List Int) (hs : a.eval s = v) (hown : Owb B w v m) (hx : a.eval x = u) (hu : Byt w u l) (hl : m.length + l.length ≤ 140737488355328) (hB : B ≤ w.heap.size)
    (h : ∀ v' w', Owb B w' v' (m ++ l) → Fr B w w' → wpList Try.prog ops Q rest (a.put o.dst v') w') :
    wpList Try.prog ops Q (o :: rest) a w :=
  appL hgd s x ho B v u m l hs hown hx hu hl hB fun v' w' h1 h2 => h v' w' h1 (Fr.grown hown hB h2)
theorem qnum_fin {w wr : World} {B N k n : Nat} {v : Value} {lb : List Int} (hk : k = n) (hp : Owb B wr v (lb ++ ptL N k)) (hb : Fr B w wr) :
    ∃ u, Ending.returned v = .returned u ∧ Owb B wr u (lb ++ ptL N n) ∧ Fr B w wr := by
  subst hk
  exact ⟨v, rfl, hp, hb⟩
set_option maxHeartbeats 1000000 in
theorem qnum_c (B : Nat) (vb : Value) (lb : List Int) (N n : Nat) (w : World) (hp : Owb B w vb lb) (hN : N < 2 ^ 64) (hn : n ≤ 24) (hlb : lb.length < 140737488350000) (hB : B ≤ w.heap.size) :
    Calls Try.prog 33 #[vb, .int .u64 N, .int .i64 n] w fun e w' => ∃ v, e = .returned v ∧ Owb B w' v (lb ++ ptL N n) ∧ Fr B w w' := by
  have HP := Hid.mk' hp
  have HNB : Hid (N < 2 ^ 64) := hN
  have HL := Hid.mk' hlb
  have HBW : Hid (B ≤ w.heap.size) := hB
  clear hp hN hlb hB
  go_enter Try.func33, Try.ntmps33
  go_wp2
  go_loopw [0, 1, 7] (fun l v i wr => ∃ k : Nat, k ≤ n ∧ i = .int .i64 k ∧ v = .int .u64 ((N / 256 ^ k : Nat) : Int) ∧ Hid (Owb B wr l (lb ++ ptL N k)) ∧ Hid (Fr B w wr)) (fun _ _ i _ => n - (intOf i).toNat)
  case atStart => exact ⟨0, Nat.zero_le _, rfl, by simp, by simpa [ptL] using HP, Fr.refl _ _⟩
  case round =>
    obtain ⟨k, hk, rfl, rfl, hown, hbel⟩ := hrel
    by_cases hlt : k < n
    · have hz : (k : Int) < (n : Int) := by omega
      have HS : Hid (ptL N (k + 1) = ptL N k ++ [((N / 256 ^ k % 256 : Nat) : Int)]) := ptL_succ N k
      have HD : Hid (N / 256 ^ (k + 1) = N / 256 ^ k / 256) := by unfold Hid; rw [Nat.pow_succ, Nat.div_div_eq_div_mul]
      have hlen : (lb ++ ptL N k).length < 140737488355000 := by have := HL.out; rw [List.length_append, ptL_length]; omega
      have hM : N / 256 ^ k < 2 ^ 64 := Nat.lt_of_le_of_lt (Nat.div_le_self _ _) HNB.out
      obtain ⟨M, hM0⟩ : ∃ M, M = N / 256 ^ k := ⟨_, rfl⟩
      rw [← hM0] at hM ⊢
      have HM : Hid (M = N / 256 ^ k) := hM0
      clear hM0
      have hMi : ((M : Nat) : Int) < 18446744073709551616 := by omega
      clear hM
      have hBs : B ≤ wr.heap.size := Nat.le_trans HBW.out hbel.out.b.size
      go_wp2_with (at_builtin; refine appN (by rfl) _ _ (by rfl) B _ (lb ++ ptL N k) [(M : Int) % 256] (by rfl) hown.out _ 1 (by rfl) (by rfl) (by simp) (by have := hlen; simp at this ⊢; omega) hBs ?_; intro v' w1 hown1 hg1)
      have HG := Hid.mk' hg1
      have HO1 := hown1
      rw [show ((M : Int) % 256) = ((M % 256 : Nat) : Int) from rfl, HM.out, List.append_assoc, ← HS.out] at HO1
      have HO := Hid.mk' HO1
      clear HO1 hg1 hown1
      go_roundw
      case rel =>
        refine ⟨k + 1, by omega, by go_num, ?_, HO, ?_⟩
        · rw [HD.out, ← HM.out]; rfl
        · exact hbel.out.trans HG.out
      case measure => simp [intOf]; omega
    · have hkn : k = n := by omega
      have HK : Hid (k = n) := hkn
      have hz : (n : Int) ≤ (k : Int) := by omega
      clear hkn hlt
      go_wp2
      go_ret
      exact qnum_fin HK.out hown.out hbel.out
/-- Of a number that is a word. -/
theorem qnum_b (B : Nat) (vb : Value) (lb : List Int) (x : BitVec 64) (n : Nat) (w : World) (hp : Owb B w vb lb) (hn : n ≤ 24) (hlb : lb.length < 140737488350000) (hB : B ≤ w.heap.size) :
    Calls Try.prog 33 #[vb, .int .u64 (n64 x), .int .i64 n] w fun e w' => ∃ v, e = .returned v ∧ Owb B w' v (lb ++ ptL x.toNat n) ∧ Fr B w w' :=
  qnum_c B vb lb x.toNat n w hp x.isLt hn hlb hB
theorem qflag_c (B : Nat) (vb : Value) (lb : List Int) (b : Bool) (w : World) (hp : Owb B w vb lb) (hlb : lb.length < 140737488350000) (hB : B ≤ w.heap.size) :
    Calls Try.prog 53 #[vb, .bool b] w fun e w' => ∃ v, e = .returned v ∧ Owb B w' v (lb ++ [fl b]) ∧ Fr B w w' := by
  have HP := Hid.mk' hp
  clear hp
  cases b
  · go_enter Try.func53, Try.ntmps53
    go_wp2_with (at_builtin; refine appN (by rfl) _ _ (by rfl) B _ lb [0] (by rfl) HP.out _ 1 (by rfl) (by rfl) (by simp) (by simp; omega) hB ?_; intro v' w1 hown1 hg1; have HO := Hid.mk' hown1; have HG := Hid.mk' hg1; clear hown1 hg1)
    go_ret
    exact ⟨_, rfl, HO.out, HG.out⟩
  · go_enter Try.func53, Try.ntmps53
    go_wp2_with (at_builtin; refine appN (by rfl) _ _ (by rfl) B _ lb [1] (by rfl) HP.out _ 1 (by rfl) (by rfl) (by simp) (by simp; omega) hB ?_; intro v' w1 hown1 hg1; have HO := Hid.mk' hown1; have HG := Hid.mk' hg1; clear hown1 hg1)
    go_ret
    exact ⟨_, rfl, HO.out, HG.out⟩
theorem qhead_c (w : World) : Calls Try.prog 27 #[] w fun e w' => e = .returned (.slice (some ⟨w.heap.size, 0, none⟩) 8 8) ∧ Owb w.heap.size w' (.slice (some ⟨w.heap.size, 0, none⟩) 8 8) headB ∧ Below w.heap.size w w' := by
  have HO : Hid (Owb w.heap.size (w.alloc (.cells (bv headB).toArray 5)) (.slice (some ⟨w.heap.size, 0, none⟩) 8 8) headB) := ⟨by simp [bv, headB], .inr ⟨w.heap.size, 8, (bv headB).toArray, rfl, Nat.le_refl _, heap_alloc_new w _, by simp [headB], by unfold maxLen; omega, by simp [bv, headB], by simp [bv, headB]⟩⟩
  go_enter Try.func27, Try.ntmps27
  go_wp2
  go_ret
  exact ⟨rfl, HO.out, below_al _ _⟩
end Go.Proofs.Ytnlkamfoopikhaa
