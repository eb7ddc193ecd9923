/-
  Two lists of bytes of the call's own, told apart by their first bytes; num and pad of the reference.
-/
import Derived.Test.YtjjdpfmkbaaapaaDoorItx
import Derived.Lib.AppendStr
import Derived.Lib.SmallJoins
import Derived.Lib.OwnKind
namespace Go.Proofs.YtjjdpfmkbaaapaaDoor
set_option linter.unusedVariables false
open Go.ChangeShapes Go.WideShapes Go.ChangeAt Go.RowKit Go.Deep
/-- The lowest n bytes of a number. -/
def ptL (N n : Nat) : List Int := (List.range n).map fun j => ((N / 256 ^ j % 256 : Nat) : Int)
theorem ptL_length (N n : Nat) : (ptL N n).length = n := by simp [ptL]
theorem ptL_get (N n j : Nat) (h : j < n) : (ptL N n).getD j 0 = ((N / 256 ^ j % 256 : Nat) : Int) := by simp [ptL, h]
theorem ptL_succ (N n : Nat) : ptL N (n + 1) = ptL N n ++ [((N / 256 ^ n % 256 : Nat) : Int)] := by simp [ptL, List.range_succ]
/-- The first list begins with 127; the second is none or begins with 0: so they lie apart. -/
structure Pr (B : Nat) (w : World) (vb : Value) (lb : List Int) (vt : Value) (lt : List Int) : Prop where
  b : w.ownsRow B 5 1 vb lb.length (bv lb)
  t : w.ownsRow B 5 1 vt lt.length (bv lt)
  h : lb.head? = some 127
  k : vt = .slice none 0 0 ∨ lt.head? = some 0
theorem Pr.first {B : Nat} {w : World} {v : Value} {l : List Int} (h : w.ownsRow B 5 1 v l.length (bv l)) {x : Int} (hx : l.head? = some x) {g : Nat} (hg : v.ownBlock = some g) : w.cell? ⟨g, 0, none⟩ = some (.int .u8 x) := by
  have := h.cells hg 0 (.int .u8 x) (by cases l with | nil => simp at hx | cons y l => simp at hx; subst hx; rfl)
  simpa [addAt] using this
theorem Pr.ne {B : Nat} {w : World} {vb vt : Value} {lb lt : List Int} (h : Pr B w vb lb vt lt) : vt.ownBlock = none ∨ vt.ownBlock ≠ vb.ownBlock := by
  rcases h.k with rfl | hk
  · exact .inl rfl
  · cases hv : vt.ownBlock with
    | none => exact .inl rfl
    | some g =>
      right
      intro e
      have h1 := Pr.first h.t hk hv
      have h2 := Pr.first h.b h.h e.symm
      rw [h1] at h2
      simp at h2
theorem Pr.ne' {B : Nat} {w : World} {vb vt : Value} {lb lt : List Int} (h : Pr B w vb lb vt lt) : vb.ownBlock = none ∨ vb.ownBlock ≠ vt.ownBlock := by
  rcases h.ne with e | e
  · cases hb : vb.ownBlock with
    | none => exact .inl rfl
    | some g => exact .inr (by rw [e]; simp)
  · exact .inr (Ne.symm e)
theorem Pr.growB {B : Nat} {w w' : World} {vb vt vb' : Value} {lb lt m : List Int} (h : Pr B w vb lb vt lt) (hg : w.grownBy w' vb.ownBlock) (ho : w'.ownsRow B 5 1 vb' (lb ++ m).length (bv (lb ++ m))) : Pr B w' vb' (lb ++ m) vt lt :=
  ⟨ho, h.t.kept hg h.ne, by cases lb with | nil => exact absurd h.h (by simp) | cons x lb => exact h.h, h.k⟩
theorem Pr.growT {B : Nat} {w w' : World} {vb vt vt' : Value} {lb lt m : List Int} (h : Pr B w vb lb vt lt) (hl : lt.head? = some 0) (hg : w.grownBy w' vt.ownBlock) (ho : w'.ownsRow B 5 1 vt' (lt ++ m).length (bv (lt ++ m))) : Pr B w' vb lb vt' (lt ++ m) :=
  ⟨h.b.kept hg h.ne', ho, h.h, .inr (by cases lt with | nil => exact absurd hl (by simp) | cons x lt => exact hl)⟩
/-- What lies below B has stayed as it was, and so have all rows that are no bytes. -/
structure Fr (B : Nat) (w w' : World) : Prop where
  b : Below B w w'
  k : ∀ (g : Nat) (cur : Array Value) (t : TypeId) (z : Nat × Nat), t ≠ 5 → w.heap[g]? = some (Obj.cells cur t z) → w'.heap[g]? = some (Obj.cells cur t z)
theorem Fr.refl (B : Nat) (w : World) : Fr B w w := ⟨Below.refl _ _, fun _ _ _ _ _ h => h⟩
theorem Fr.trans {B : Nat} {w w' w'' : World} (h : Fr B w w') (k : Fr B w' w'') : Fr B w w'' := ⟨h.b.trans k.b, fun g cur t z ht hg => k.k g cur t z ht (h.k g cur t z ht hg)⟩
theorem Fr.alloc {B : Nat} {w w' : World} (h : Fr B w w') (hB : B ≤ w'.heap.size) (o : Obj) : Fr B w (w'.alloc o) :=
  ⟨h.b.alloc hB o, fun g cur t z ht hg => by
    have h1 := h.k g cur t z ht hg
    rw [Below.heap_alloc w' o g (Array.getElem?_eq_some_iff.1 h1).1]; exact h1⟩
theorem Fr.grown {B n : Nat} {w w' : World} {v : Value} {xs : List Value} (ho : w.ownsRow B 5 1 v n xs) (hB : B ≤ w.heap.size) (hg : w.grownBy w' v.ownBlock) : Fr B w w' :=
  ⟨(Below.refl _ _).grown hg hB (fun k hk => (ho.lt k hk).1), fun g cur t z ht h => by
    rw [hg.block g (Array.getElem?_eq_some_iff.1 h).1 (fun e => ?_)]
    · exact h
    · obtain ⟨c, fz, h2⟩ := Go.Lib.ownsRow_kind ho g e.symm
      rw [h] at h2
      simp at h2
      exact ht h2.2.1⟩
/-- One byte appended to the first list. -/
theorem appPb {ops : Array Oper} {rest : List Oper} {o : Oper} {a : Act} {w : World} {Q : Exit → Act → World → Prop} (hgd : o.guard = none) (s x : Operand) (ho : o.op = .call { callee := .builtin .append, args := #[s, x], argTypes := #[28, 28] })
    (B : Nat) (vb vt : Value) (lb lt : List Int) (b : Int) (hs : a.eval s = vb) (hp : Pr B w vb lb vt lt) (h0 : Nat) (hx : a.eval x = .slice (some ⟨h0, 0, none⟩) 1 1) (hh0 : h0 = w.heap.size) (hl : lb.length < 1000000) (hB : B ≤ w.heap.size)
    (h : ∀ v' w', Pr B w' v' (lb ++ [b]) vt lt → Fr B w w' → wpList Tryd.prog ops Q rest (a.put o.dst v') w') :
    wpList Tryd.prog ops Q (o :: rest) a (w.alloc (.cells #[.int .u8 b] 5)) := by
  subst hh0
  obtain ⟨i0, hi, hz0, hz1, hz2⟩ := info_parts info5
  refine wpList_append_own _ hgd s x 28 ho B 5 i0 (.int .u8 0) 1 1 Tryd.underlying28 hi hz0 hz1 hz2 rfl (by decide) vb lb.length (bv lb) hs (hp.b.alloc _) ⟨w.heap.size, 0, none⟩ 1 1 [.int .u8 b] hx rfl ?_ ?_ (by unfold maxLen; omega) (by omega) (by simp; omega) ?_
  · intro j u hj
    match j, hj with
    | 0, hj => simp at hj; subst hj; simp [Addr.add]
  · intro u hu; simp at hu; subst hu; rfl
  · intro v' w' h1 h2 _
    have hg : w.grownBy w' vb.ownBlock := ⟨h2.os, h2.tape, h2.output, Nat.le_trans (by simp) h2.size, fun k hk hne => (h2.block k (by simp; omega) hne).trans (Below.heap_alloc w _ k hk)⟩
    exact h v' w' (hp.growB hg (by simpa [bv] using h1)) (Fr.grown hp.b hB hg)
theorem rnum_fin {w wr : World} {B N k n : Nat} {v vt : Value} {lb lt : List Int} (hk : k = n) (hp : Pr B wr v (lb ++ ptL N k) vt lt) (hb : Fr B w wr) :
    ∃ u, Ending.returned v = .returned u ∧ Pr B wr u (lb ++ ptL N n) vt lt ∧ Fr B w wr := by
  subst hk
  exact ⟨v, rfl, hp, hb⟩
set_option maxHeartbeats 1000000 in
theorem rnum_c (B : Nat) (vb vt : Value) (lb lt : List Int) (N n : Nat) (w : World) (hp : Pr B w vb lb vt lt) (hN : N < 2 ^ 64) (hn : n ≤ 24) (hlb : lb.length < 900000) (hB : B ≤ w.heap.size) :
    Calls Tryd.prog 15 #[vb, .int .u64 N, .int .i64 n] w fun e w' => ∃ v, e = .returned v ∧ Pr B w' v (lb ++ ptL N n) vt lt ∧ Fr B w w' := by
  have HP : Hid (Pr B w vb lb vt lt) := hp
  have HNB : Hid (N < 2 ^ 64) := hN
  have HL : Hid (lb.length < 900000) := hlb
  have HBW : Hid (B ≤ w.heap.size) := hB
  clear hp hN hlb hB
  go_enter Tryd.func15, Tryd.ntmps15
  go_wp2
  go_loopw [0, 1, 7] (fun l v i wr => ∃ k : Nat, k ≤ n ∧ i = .int .i64 k ∧ v = .int .u64 ((N / 256 ^ k : Nat) : Int) ∧ Hid (Pr B wr l (lb ++ ptL N k) vt lt) ∧ Hid (Fr B w wr)) (fun _ _ i _ => n - (intOf i).toNat)
  case atStart => exact ⟨0, Nat.zero_le _, rfl, by simp, by simpa [ptL] using HP, Fr.refl _ _⟩
  case round =>
    obtain ⟨k, hk, rfl, rfl, hown, hbel⟩ := hrel
    by_cases hlt : k < n
    · have hz : (k : Int) < (n : Int) := by omega
      have HS : Hid (ptL N (k + 1) = ptL N k ++ [((N / 256 ^ k % 256 : Nat) : Int)]) := ptL_succ N k
      have HD : Hid (N / 256 ^ (k + 1) = N / 256 ^ k / 256) := by unfold Hid; rw [Nat.pow_succ, Nat.div_div_eq_div_mul]
      have hlen : (lb ++ ptL N k).length < 1000000 := by have := HL.out; rw [List.length_append, ptL_length]; omega
      have hM : N / 256 ^ k < 2 ^ 64 := Nat.lt_of_le_of_lt (Nat.div_le_self _ _) HNB.out
      obtain ⟨M, hM0⟩ : ∃ M, M = N / 256 ^ k := ⟨_, rfl⟩
      rw [← hM0] at hM ⊢
      have HM : Hid (M = N / 256 ^ k) := hM0
      clear hM0
      have hMi : ((M : Nat) : Int) < 18446744073709551616 := by omega
      clear hM
      have hBs : B ≤ wr.heap.size := Nat.le_trans HBW.out hbel.out.b.size
      go_wp2_with (at_builtin; refine appPb (by rfl) _ _ (by rfl) B _ vt (lb ++ ptL N k) lt _ (by rfl) hown.out _ (by rfl) (by simp) hlen hBs ?_; intro v' w1 hown1 hg1)
      have HG : Hid (Fr B wr w1) := hg1
      have HO1 := hown1
      rw [show ((M : Int) % 256) = ((M % 256 : Nat) : Int) from rfl, HM.out, List.append_assoc, ← HS.out] at HO1
      have HO : Hid (Pr B w1 v' (lb ++ ptL N (k + 1)) vt lt) := HO1
      clear HO1 hg1 hown1
      go_roundw
      case rel =>
        refine ⟨k + 1, by omega, by go_num, ?_, HO, ?_⟩
        · rw [HD.out, ← HM.out]; rfl
        · exact hbel.out.trans HG.out
      case measure => simp [intOf]; omega
    · have hkn : k = n := by omega
      have HK : Hid (k = n) := hkn
      have hz : (n : Int) ≤ (k : Int) := by omega
      clear hkn hlt
      go_wp2
      go_ret
      exact rnum_fin HK.out hown.out hbel.out
theorem rnum_z (B : Nat) (vb vt : Value) (lb lt : List Int) (z k : Int) (w : World) (hp : Pr B w vb lb vt lt) (hz0 : 0 ≤ z) (hz : z < 18446744073709551616) (hk0 : 0 ≤ k) (hk : k ≤ 24) (hlb : lb.length < 900000) (hB : B ≤ w.heap.size) :
    Calls Tryd.prog 15 #[vb, .int .u64 z, .int .i64 k] w fun e w' => ∃ v, e = .returned v ∧ Pr B w' v (lb ++ ptL z.toNat k.toNat) vt lt ∧ Fr B w w' := by
  have h := rnum_c B vb vt lb lt z.toNat k.toNat w hp (by omega) (by omega) hlb hB
  rw [Int.toNat_of_nonneg hz0, Int.toNat_of_nonneg hk0] at h
  exact h
end Go.Proofs.YtjjdpfmkbaaapaaDoor
