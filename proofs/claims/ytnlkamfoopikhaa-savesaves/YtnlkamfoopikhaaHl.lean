/-
  Layer 16 (save): ramSection of the program.
-/
import Derived.Test.YtnlkamfoopikhaaHi
import Derived.Lib.OwnKind
namespace Go.Proofs.Ytnlkamfoopikhaa
set_option linter.unusedVariables false
set_option maxRecDepth 100000
open Go.ChangeShapes Go.WideShapes Go.ChangeAt Go.RowKit Go.Deep
theorem put_n (N n : Nat) (hN : N < 18446744073709551616) (h0 : 0 < n) (h8 : n ≤ 8) (w : World) :
    Calls Try.prog 25 #[.int .u64 (N : Int), .int .i64 (n : Int)] w fun e w' => ∃ u, e = .returned u ∧ Fsh w.heap.size w' u (ptL N n) ∧ Below w.heap.size w w' := by
  have h := put_c (BitVec.ofNat 64 N) n h0 h8 w
  rw [← nat64 hN, BitVec.toNat_ofNat, Nat.mod_eq_of_lt hN] at h
  exact h
theorem wB_small (N : Nat) (hN : N < 18446744073709551616) : (wB N).toNat = N := by rw [wB_nat]; omega
/-- A section: bytes that came in, or new ones. -/
def Sec (B : Nat) (w : World) (u : Value) (l : List Int) : Prop := (Byt w u l ∧ ∀ g, u.ownBlock = some g → g < B) ∨ Fsh B w u l
/-- What came in stays, and all rows of bytes. -/
structure Frb (B : Nat) (w w' : World) : Prop where
  b : Below B w w'
  k : ∀ (g : Nat) (cur : Array Value) (z : Nat × Nat), w.heap[g]? = some (Obj.cells cur 5 z) → w'.heap[g]? = some (Obj.cells cur 5 z)
theorem Frb.refl (B : Nat) (w : World) : Frb B w w := ⟨Below.refl _ _, fun _ _ _ h => h⟩
theorem Frb.trans {B : Nat} {w w' w'' : World} (h : Frb B w w') (k : Frb B w' w'') : Frb B w w'' := ⟨h.b.trans k.b, fun g cur z hg => k.k g cur z (h.k g cur z hg)⟩
theorem Frb.of {B : Nat} {w w' : World} (h : Below w.heap.size w w') (hB : B ≤ w.heap.size) : Frb B w w' := ⟨h.mono hB, fun g cur z hg => by
  rw [h.block g (Array.getElem?_eq_some_iff.1 hg).1]; exact hg⟩
theorem Frb.grown {B n : Nat} {w w' : World} {v : Value} {xs : List Value} (ho : w.ownsRow B 32 1 v n xs) (hB : B ≤ w.heap.size) (hg : w.grownBy w' v.ownBlock) : Frb B w w' :=
  ⟨(Below.refl _ _).grown hg hB (fun k hk => (ho.lt k hk).1), fun g cur z h => by
    rw [hg.block g (Array.getElem?_eq_some_iff.1 h).1 (fun e => ?_)]
    · exact h
    · obtain ⟨c, fz, h2⟩ := Go.Lib.ownsRow_kind ho g e.symm
      rw [h] at h2
      simp at h2⟩
theorem Sec.fr {B : Nat} {w w' : World} {u : Value} {l : List Int} (h : Sec B w u l) (hf : Frb B w w') : Sec B w' u l := by
  rcases h with ⟨h1, h2⟩ | ⟨g, e, hB, hr⟩
  · exact .inl ⟨h1.exc (S := fun k => B ≤ k) ⟨hf.b.os, hf.b.tape, hf.b.output, hf.b.size, fun k _ hk => hf.b.block k (by omega)⟩ (fun g off n c e => by have := h2 g (by rw [e]; rfl); omega), h2⟩
  · exact .inr ⟨g, e, hB, hf.k g _ _ hr⟩
theorem Sec.byt {B : Nat} {w : World} {u : Value} {l : List Int} (h : Sec B w u l) : Byt w u l := by
  rcases h with ⟨h1, _⟩ | h
  · exact h1
  · exact h.byt
def Secs (B : Nat) (w : World) (us : List Value) (ls : List (List Int)) : Prop := us.length = ls.length ∧ ∀ j, j < ls.length → Sec B w (us.getD j undef) (ls.getD j [])
theorem Secs.fr {B : Nat} {w w' : World} {us : List Value} {ls : List (List Int)} (h : Secs B w us ls) (hf : Frb B w w') : Secs B w' us ls := ⟨h.1, fun j hj => (h.2 j hj).fr hf⟩
theorem Secs.one {B : Nat} {w : World} {us : List Value} {ls : List (List Int)} (h : Secs B w us ls) {u : Value} {l : List Int} (hu : Sec B w u l) : Secs B w (us ++ [u]) (ls ++ [l]) := by
  refine ⟨by simp [h.1], fun j hj => ?_⟩
  rw [List.length_append] at hj
  by_cases e : j < ls.length
  · have := h.2 j e
    rw [List.getD_eq_getElem?_getD, List.getD_eq_getElem?_getD, List.getElem?_append_left (by rw [h.1]; exact e), List.getElem?_append_left e, ← List.getD_eq_getElem?_getD, ← List.getD_eq_getElem?_getD]
    exact this
  · have : j = ls.length := by simp at hj; omega
    subst this
    rw [List.getD_eq_getElem?_getD, List.getD_eq_getElem?_getD, List.getElem?_append_right (by rw [h.1]; exact Nat.le_refl _), List.getElem?_append_right (Nat.le_refl _), h.1]
    simpa using hu
theorem infoR : (Try.prog.info? 32).map (fun i => (i.zero, i.size, i.bytes)) = some (some (.slice none 0 0), 1, 24) := by kernel_rfl
/-- Sections appended. -/
theorem appR {ops : Array Oper} {rest : List Oper} {o : Oper} {a : Act} {w0 : World} {Q : Exit → Act → World → Prop} (hgd : o.guard = none) (s x : Operand) (ho : o.op = .call { callee := .builtin .append, args := #[s, x], argTypes := #[106, 106] })
    (B : Nat) (v : Value) (us ns : List Value) (hs : a.eval s = v) (hown : w0.ownsRow B 32 1 v us.length us) (h0 m : Nat) (hm : m = ns.length) (hx : a.eval x = .slice (some ⟨h0, 0, none⟩) m m) (hh0 : h0 = w0.heap.size) (hn1 : ∀ u ∈ ns, u.oneCell' = true) (hl : us.length + ns.length ≤ 100000) (hB : B ≤ w0.heap.size)
    (h : ∀ v' w', w'.ownsRow B 32 1 v' (us ++ ns).length (us ++ ns) → Frb B w0 w' → wpList Try.prog ops Q rest (a.put o.dst v') w') :
    wpList Try.prog ops Q (o :: rest) a (w0.alloc (.cells ns.toArray 32)) := by
  subst hh0
  subst hm
  obtain ⟨i0, hi, hz0, hz1, hz2⟩ := info_parts infoR
  refine wpList_append_own _ hgd s x 106 ho B 32 i0 (.slice none 0 0) 1 24 Try.underlying106 hi hz0 hz1 hz2 rfl (by decide) v us.length us hs (hown.alloc _) ⟨w0.heap.size, 0, none⟩ ns.length ns.length ns hx (by simp) ?_ hn1 (by unfold maxLen; omega) (by omega) (by simp; omega) ?_
  · intro j u hj
    rw [addAt, Nat.zero_add, (Row.new w0 _ _).cell, List.getElem?_toArray]; exact hj
  · intro v' w' h1 h2 _
    have hg : w0.grownBy w' v.ownBlock := ⟨h2.os, h2.tape, h2.output, Nat.le_trans (by simp) h2.size, fun k hk hne => (h2.block k (by simp; omega) hne).trans (Below.heap_alloc w0 _ k hk)⟩
    exact h v' w' (by simpa using h1) (Frb.grown hown hB hg)
theorem rws_of {B : Nat} {w : World} {v : Value} {us : List Value} {ls : List (List Int)} (ho : w.ownsRow B 32 1 v us.length us) (hs : Secs B w us ls) (hn : ls ≠ []) : Rws w v ls := by
  rcases ho.2 with ⟨_, h0⟩ | ⟨g, cap, cur, rfl, h1, h2, h3, h4, h5, h6⟩
  · exfalso
    have := hs.1
    rw [h0] at this
    exact hn (List.eq_nil_of_length_eq_zero this.symm)
  · refine ⟨g, cap, by rw [hs.1], (Array.getElem?_eq_some_iff.1 h2).1, fun j hj => ⟨us.getD j undef, ?_, (hs.2 j hj).byt⟩⟩
    have hju : j < us.length := by rw [hs.1]; exact hj
    have := ho.cells (g := g) rfl j (us.getD j undef) (by simp [hju])
    simpa [addAt] using this
end Go.Proofs.Ytnlkamfoopikhaa
